/-
  The walk of AddrSizes.
-/
import Derived.Test.YthdmbggpokaggabDoorCov
import Derived.Test.YthdmbggpokaggabDoorMathB
import Derived.Deep.RegionHeld3
import Derived.Deep.RegionWith
import Derived.Deep.QuietTactic
import Derived.BigQuiet
import Derived.WalkSmall
import Derived.Deep.CutRange
import Derived.Deep.DrawnRows
namespace Go.Proofs.YthdmbggpokaggabDoor
open Go.RowKit
set_option linter.unusedVariables false
attribute [local go_sem ↓] Go.wp_at_zero Go.wp_at_succ

theorem wrap64_in (n : Int) (h0 : -9223372036854775808 ≤ n) (h1 : n ≤ 9223372036854775807) : wrap64 n = n := by
  unfold wrap64; omega
theorem wrap_sum (A D : Nat) (h : A + D ≤ 4294967296) : wrap64 ((A : Int) + wrap64 (D : Int)) = ((A + D : Nat) : Int) := by
  rw [wrap64_in (D : Int) (by omega) (by omega), wrap64_in _ (by omega) (by omega)]; omega
/-- The prefixes lie one behind the other in block g. -/
def Lies (g : Nat) (l : List (Nat × Nat)) (W : World) : Prop := g < W.heap.size ∧ ∀ (k a b : Nat), l[k]? = some (a, b) → W.cell? ⟨g, k * 2, none⟩ = some (.int .u32 (a : Int)) ∧ W.cell? ⟨g, k * 2 + 1, none⟩ = some (.int .i64 (b : Int))
theorem Lies.keep {g : Nat} {l : List (Nat × Nat)} {W w1 : World} {B : Nat} (h : Lies g l W) (hB : g < B) (hb : Below B W w1) : Lies g l w1 :=
  ⟨Nat.lt_of_lt_of_le h.1 hb.size, fun k a b hk => ⟨by rw [hb.cell (p := ⟨g, k * 2, none⟩) hB]; exact (h.2 k a b hk).1, by rw [hb.cell (p := ⟨g, k * 2 + 1, none⟩) hB]; exact (h.2 k a b hk).2⟩⟩
theorem pcells_at (l : List (Nat × Nat)) : ∀ (k a b : Nat), l[k]? = some (a, b) → (pcells l)[k * 2]? = some (.int .u32 (a : Int)) ∧ (pcells l)[k * 2 + 1]? = some (.int .i64 (b : Int)) := by
  induction l with
  | nil => intro k a b h; simp at h
  | cons x l ih =>
    intro k a b h
    obtain ⟨c, d⟩ := x
    cases k with
    | zero => simp at h; obtain ⟨rfl, rfl⟩ := h; simp [pcells]
    | succ k =>
      have := ih k a b (by simpa using h)
      rw [show (k + 1) * 2 = k * 2 + 1 + 1 from by omega, show k * 2 + 1 + 1 + 1 = (k * 2 + 1) + 1 + 1 from rfl]
      simpa [pcells] using this
theorem lies_of {w1 : World} {base e n : Nat} {v : Value} {l : List (Nat × Nat)} (h : w1.ownsRow base e 2 v n (pcells l)) (hn : 0 < n) :
    ∃ g cap, v = .slice (some ⟨g, 0, none⟩) n cap ∧ base ≤ g ∧ Lies g l w1 := by
  obtain ⟨g, cap, rfl, hb, hlt⟩ := h.form hn
  refine ⟨g, cap, rfl, hb, hlt, fun k a b hk => ?_⟩
  obtain ⟨h1, h2⟩ := pcells_at l k a b hk
  have c1 := h.cells (g := g) rfl _ _ h1
  have c2 := h.cells (g := g) rfl _ _ h2
  have ad : ∀ j, (⟨g, 0, none⟩ : Addr).add j = ⟨g, j, none⟩ := fun j => by unfold Addr.add; split <;> simp_all
  rw [ad] at c1 c2
  exact ⟨c1, c2⟩
theorem sizes_take (L : List (Nat × Nat)) (k a b : Nat) (h : L[k]? = some (a, b)) : sizes (L.take (k + 1)) = sizes (L.take k) + 2 ^ (32 - b) := by
  rw [List.take_add_one, h, sizes_append]; simp [sizes]
theorem sizes_le (L : List (Nat × Nat)) (k : Nat) : sizes (L.take k) ≤ sizes L := by
  have := sizes_append (L.take k) (L.drop k)
  rw [List.take_append_drop] at this; omega

set_option maxHeartbeats 1000000 in
theorem size_any (s t : Nat) (w : World) (h : s ≤ t) (ht : t < 4294967296) (hT : Tab w) :
    Calls Tryd.prog 4 #[.int .u32 s, .int .u32 t] w fun e w' => e = .returned (.int .i64 ((t + 1 - s : Nat) : Int)) ∧ Below w.heap.size w w' := by
  have hL := len_62 s (t + 1) (by omega) (by omega)
  have hL1 := len_pos s (t + 1) (by omega)
  have HZ := Lib.hid (cov_sizes (t + 1) (by omega) _ s (Nat.le_refl _) (by omega))
  have HM := Lib.hid (cov_mem (t + 1) (by omega) _ s (Nat.le_refl _))
  have H1 : Hid (∀ w', Tab w' → Calls Tryd.prog 5 #[.int .u32 s, .int .u32 t] w' fun e w'' => ∃ v, e = .returned (.tuple #[v, .int .i64 0]) ∧ w''.ownsRow w'.heap.size 28 2 v (cov s (t + 1)).length (pcells (cov s (t + 1))) ∧ Below w'.heap.size w' w'') := fun w' h' => cover_any s t w' (by omega) ht h'
  have HT := Lib.hid hT
  clear hT
  generalize cov s (t + 1) = L at *
  generalize hn : L.length = n at *
  go_enter Tryd.func4, Tryd.ntmps4
  go_wp2_with fail
  refine (H1.out _ HT.out).mono ?_; rintro e w1 ⟨v1, rfl, ho1, hb1⟩
  obtain ⟨g1, c1, rfl, hg1, l1⟩ := lies_of ho1 (by omega)
  have L1 := Lib.hid l1
  have hs1 := hb1.size
  clear l1 ho1
  go_wp2
  go_loopw [7, 20] (fun m i W => ∃ k : Nat, k ≤ n ∧ i = .int .i64 k ∧ m = .int .i64 (sizes (L.take k) : Nat) ∧ Hid (Lies g1 L W) ∧ Below w.heap.size w W) (fun _ i _ => n - (intOf i).toNat)
  case atStart => exact ⟨0, Nat.zero_le _, rfl, rfl, L1, hb1⟩
  case round =>
    obtain ⟨k, hk, rfl, rfl, li, hbel⟩ := hrel
    have hsz : sizes (L.take k) ≤ 4294967296 := by have := sizes_le L k; have := HZ.out; omega
    have hs0 := hbel.size
    by_cases hlt : k < n
    · obtain ⟨⟨a, b⟩, hab⟩ : ∃ p, L[k]? = some p := ⟨L[k], List.getElem?_eq_getElem (by omega)⟩
      obtain ⟨m1, m2, m3, m4⟩ := HM.out (a, b) (List.mem_of_getElem? hab)
      simp only at m1 m2 m3 m4
      obtain ⟨ca, cb⟩ := li.out.2 k a b hab
      have HS := Lib.hid (sizes_take L k a b hab)
      have hsz2 : sizes (L.take k) + 2 ^ (32 - b) ≤ 4294967296 := by rw [← HS.out]; have := sizes_le L (k + 1); have := HZ.out; omega
      have g1l := li.out.1
      have LK : Hid (∀ o, Hid (Lies g1 L (wr.alloc o))) := fun o => li.out.keep g1l ((Below.refl _ _).alloc (Nat.le_refl _) o)
      have BK : Hid (∀ o, Below w.heap.size w (wr.alloc o)) := fun o => hbel.alloc hs0 o
      have hbi : (b : Int) ≤ 32 := by omega
      have hbj : (0 : Int) ≤ (b : Int) := by omega
      have HP : Hid (wrap64 ((sizes (L.take k) : Nat) + wrap64 ((2 : Int) ^ (32 - min (b : Int) 32).toNat)) = ((sizes (L.take (k + 1)) : Nat) : Int)) := by
        show _ = _
        rw [HS.out, show (32 - min (b : Int) 32).toNat = 32 - b from by omega]
        have e2 : (2 : Int) ^ (32 - b) = ((2 ^ (32 - b) : Nat) : Int) := by simp
        rw [e2]
        exact wrap_sum _ _ hsz2
      clear hab m2 m4
      go_wp2
      go_roundw
      case rel => exact ⟨k + 1, by omega, by go_num, by rw [HP.out], LK.out _, BK.out _⟩
      case measure => simp [intOf]; omega
    · have htk : L.take k = L := List.take_of_length_le (by omega)
      rw [htk]
      go_wp2
      go_ret
      exact ⟨ret_int (by rw [HZ.out]), hbel⟩

/-- Three numbers lie in block G, and may be written. -/
def Arr (G x y z : Nat) (W : World) : Prop :=
  (W.cell? ⟨G, 0, none⟩ = some (.int .u32 (x : Int)) ∧ W.cell? ⟨G, 1, none⟩ = some (.int .u32 (y : Int)) ∧ W.cell? ⟨G, 2, none⟩ = some (.int .u32 (z : Int))) ∧
  (W.frozen? ⟨G, 0, none⟩ = false ∧ W.frozen? ⟨G, 1, none⟩ = false ∧ W.frozen? ⟨G, 2, none⟩ = false) ∧ x < 4294967296 ∧ y < 4294967296 ∧ z < 4294967296

theorem far {W : World} {G i j : Nat} {u v : Value} (hij : i ≠ j) (h : W.cell? ⟨G, j, none⟩ = some v) : (W.setCell ⟨G, i, none⟩ u).cell? ⟨G, j, none⟩ = some v := by
  rw [World.cell?_setCell_other (w := W) (h := fun h => hij (by injection h))]; exact h
theorem Arr.set0 {G x y z : Nat} {W : World} (h : Arr G x y z W) (n : Nat) (hn : n < 4294967296) : Arr G n y z (W.setCell ⟨G, 0, none⟩ (.int .u32 (n : Int))) := by
  obtain ⟨⟨p0, p1, p2⟩, ⟨f0, f1, f2⟩, x32, y32, z32⟩ := h
  exact ⟨⟨World.cell?_setCell_same W ⟨G, 0, none⟩ _ p0, far (by omega) p1, far (by omega) p2⟩, ⟨by rw [World.frozen?_setCell]; exact f0, by rw [World.frozen?_setCell]; exact f1, by rw [World.frozen?_setCell]; exact f2⟩, hn, y32, z32⟩
theorem Arr.set1 {G x y z : Nat} {W : World} (h : Arr G x y z W) (n : Nat) (hn : n < 4294967296) : Arr G x n z (W.setCell ⟨G, 1, none⟩ (.int .u32 (n : Int))) := by
  obtain ⟨⟨p0, p1, p2⟩, ⟨f0, f1, f2⟩, x32, y32, z32⟩ := h
  exact ⟨⟨far (by omega) p0, World.cell?_setCell_same W ⟨G, 1, none⟩ _ p1, far (by omega) p2⟩, ⟨by rw [World.frozen?_setCell]; exact f0, by rw [World.frozen?_setCell]; exact f1, by rw [World.frozen?_setCell]; exact f2⟩, x32, hn, z32⟩
theorem Arr.set2 {G x y z : Nat} {W : World} (h : Arr G x y z W) (n : Nat) (hn : n < 4294967296) : Arr G x y n (W.setCell ⟨G, 2, none⟩ (.int .u32 (n : Int))) := by
  obtain ⟨⟨p0, p1, p2⟩, ⟨f0, f1, f2⟩, x32, y32, z32⟩ := h
  exact ⟨⟨far (by omega) p0, far (by omega) p1, World.cell?_setCell_same W ⟨G, 2, none⟩ _ p2⟩, ⟨by rw [World.frozen?_setCell]; exact f0, by rw [World.frozen?_setCell]; exact f1, by rw [World.frozen?_setCell]; exact f2⟩, x32, y32, hn⟩

set_option maxHeartbeats 4000000 in
set_option maxRecDepth 100000 in
theorem sizes_walk (a b c : Nat) (w : World) (ha : a < 4294967296) (hb : b < 4294967296) (hc : c < 4294967296) (hT : Tab w) :
    Calls Tryd.prog 3 #[.int .u32 a, .int .u32 b, .int .u32 c] w fun e w' => e = .returned (.bool true) ∧ Below w.heap.size w w' := by
  have hpos := hT.size
  have HT := Lib.hid hT
  clear hT
  have A0 : Hid (Arr w.heap.size a b c (w.alloc (.cells #[.int .u32 (a : Int), .int .u32 (b : Int), .int .u32 (c : Int)] 22))) := by
    refine ⟨⟨?_, ?_, ?_⟩, ⟨?_, ?_, ?_⟩, ha, hb, hc⟩ <;> simp [go_sem]
  have B0 : Below w.heap.size w (w.alloc (.cells #[.int .u32 (a : Int), .int .u32 (b : Int), .int .u32 (c : Int)] 22)) := (Below.refl _ _).alloc (Nat.le_refl _) _
  go_enter Tryd.func3, Tryd.ntmps3
  go_wp2
  go_loopw [17] (fun i W => ∃ k x y z : Nat, k ≤ 3 ∧ i = .int .i64 k ∧ Hid (Arr w.heap.size x y z W) ∧ Below w.heap.size w W ∧ Hid ((2 ≤ k → x ≤ y) ∧ (3 ≤ k → y ≤ z))) (fun i _ => 3 - (intOf i).toNat)
  case atStart => exact ⟨0, a, b, c, by omega, rfl, A0, B0, ⟨by omega, by omega⟩⟩
  case round =>
    obtain ⟨k, x, y, z, hk, rfl, hA, hbel, hO⟩ := hrel
    have hk4 : k = 0 ∨ k = 1 ∨ k = 2 ∨ k = 3 := by omega
    rcases hk4 with rfl | rfl | rfl | rfl
    · go_wp2
      go_loopw [24] (fun j W => j = .int .i64 0 ∧ W = wr) (fun _ _ => 0)
      case atStart => exact ⟨rfl, rfl⟩
      case round =>
        obtain ⟨rfl, rfl⟩ := hrel
        go_wp2
        go_roundw
        case rel => exact ⟨1, x, y, z, by omega, rfl, hA, hbel, ⟨by omega, by omega⟩⟩
        case measure => simp [intOf]
    · go_wp2
      go_loopw [24] (fun j W => ∃ m x y z : Nat, m ≤ 1 ∧ j = .int .i64 m ∧ Hid (Arr w.heap.size x y z W) ∧ Below w.heap.size w W ∧ Hid (1 ≤ m → x ≤ y)) (fun j _ => 1 - (intOf j).toNat)
      case atStart => exact ⟨0, x, y, z, by omega, rfl, hA, hbel, by show _ → _; omega⟩
      case round =>
        clear hA hbel hO
        obtain ⟨m, x, y, z, hm, rfl, hA, hbel, hO⟩ := hrel
        have hm2 : m = 0 ∨ m = 1 := by omega
        rcases hm2 with rfl | rfl
        · obtain ⟨⟨p0, p1, p2⟩, ⟨f0, f1, f2⟩, x32, y32, z32⟩ := hA.out
          by_cases hgt : y < x
          · go_wp2
            go_quiet (fail)
            go_wp2
            have A1 : Hid (Arr w.heap.size x y z (wr.drewN nq)) := hA.out
            have b1 : Below w.heap.size w (wr.drewN nq) := below_drewN hbel nq
            generalize wr.drewN nq = W1 at *
            clear p0 p1 p2 f0 f1 f2
            obtain ⟨⟨p0, p1, p2⟩, ⟨f0, f1, f2⟩, _, _, _⟩ := A1.out
            go_region
            go_wp2
            go_roundw
            case rel => exact ⟨1, y, x, z, by omega, rfl, (A1.out.set0 y y32).set1 x x32, ((b1.setCell (p := ⟨w.heap.size, 0, none⟩) (Nat.le_refl _) _).setCell (p := ⟨w.heap.size, 1, none⟩) (Nat.le_refl _) _).drew, by show _ → _; omega⟩
            case measure => simp [intOf]
          · go_wp2
            go_quiet (fail)
            go_wp2
            go_roundw
            case rel => exact ⟨1, x, y, z, by omega, rfl, hA, below_drewN hbel nq, by show _ → _; omega⟩
            case measure => simp [intOf]
        · go_wp2
          go_roundw
          case rel => exact ⟨2, x, y, z, by omega, rfl, hA, hbel, ⟨fun _ => hO.out (by omega), by omega⟩⟩
          case measure => simp [intOf]
    · go_wp2
      go_loopw [24] (fun j W => ∃ m x y z : Nat, m ≤ 2 ∧ j = .int .i64 m ∧ Hid (Arr w.heap.size x y z W) ∧ Below w.heap.size w W ∧ Hid (x ≤ y ∧ (1 ≤ m → x ≤ z) ∧ (2 ≤ m → y ≤ z))) (fun j _ => 2 - (intOf j).toNat)
      case atStart => exact ⟨0, x, y, z, by omega, rfl, hA, hbel, ⟨hO.out.1 (by omega), by omega, by omega⟩⟩
      case round =>
        clear hA hbel hO
        obtain ⟨m, x, y, z, hm, rfl, hA, hbel, hO⟩ := hrel
        have hm2 : m = 0 ∨ m = 1 ∨ m = 2 := by omega
        rcases hm2 with rfl | rfl | rfl
        · obtain ⟨⟨p0, p1, p2⟩, ⟨f0, f1, f2⟩, x32, y32, z32⟩ := hA.out
          by_cases hgt : z < x
          · go_wp2
            go_quiet (fail)
            go_wp2
            have A1 : Hid (Arr w.heap.size x y z (wr.drewN nq)) := hA.out
            have b1 : Below w.heap.size w (wr.drewN nq) := below_drewN hbel nq
            generalize wr.drewN nq = W1 at *
            clear p0 p1 p2 f0 f1 f2
            obtain ⟨⟨p0, p1, p2⟩, ⟨f0, f1, f2⟩, _, _, _⟩ := A1.out
            have hOo := hO.out
            have HO2 : Hid (z ≤ y ∧ (1 ≤ 1 → z ≤ x) ∧ (2 ≤ 1 → y ≤ x)) := by show _ ∧ _ ∧ _; omega
            clear hOo
            go_region
            go_wp2
            go_roundw
            case rel => exact ⟨1, z, y, x, by omega, rfl, (A1.out.set0 z z32).set2 x x32, ((b1.setCell (p := ⟨w.heap.size, 0, none⟩) (Nat.le_refl _) _).setCell (p := ⟨w.heap.size, 2, none⟩) (Nat.le_refl _) _).drew, HO2⟩
            case measure => simp [intOf]
          · have hOo := hO.out
            have HO2 : Hid (x ≤ y ∧ (1 ≤ 1 → x ≤ z) ∧ (2 ≤ 1 → y ≤ z)) := by show _ ∧ _ ∧ _; omega
            clear hOo
            go_wp2
            go_quiet (fail)
            go_wp2
            go_roundw
            case rel => exact ⟨1, x, y, z, by omega, rfl, hA, below_drewN hbel nq, HO2⟩
            case measure => simp [intOf]
        · obtain ⟨⟨p0, p1, p2⟩, ⟨f0, f1, f2⟩, x32, y32, z32⟩ := hA.out
          by_cases hgt : z < y
          · go_wp2
            go_quiet (fail)
            go_wp2
            have A1 : Hid (Arr w.heap.size x y z (wr.drewN nq)) := hA.out
            have b1 : Below w.heap.size w (wr.drewN nq) := below_drewN hbel nq
            generalize wr.drewN nq = W1 at *
            clear p0 p1 p2 f0 f1 f2
            obtain ⟨⟨p0, p1, p2⟩, ⟨f0, f1, f2⟩, _, _, _⟩ := A1.out
            have hOo := hO.out
            have HO2 : Hid (x ≤ z ∧ (1 ≤ 2 → x ≤ y) ∧ (2 ≤ 2 → z ≤ y)) := by show _ ∧ _ ∧ _; omega
            clear hOo
            go_region
            go_wp2
            go_roundw
            case rel => exact ⟨2, x, z, y, by omega, rfl, (A1.out.set1 z z32).set2 y y32, ((b1.setCell (p := ⟨w.heap.size, 1, none⟩) (Nat.le_refl _) _).setCell (p := ⟨w.heap.size, 2, none⟩) (Nat.le_refl _) _).drew, HO2⟩
            case measure => simp [intOf]
          · have hOo := hO.out
            have HO2 : Hid (x ≤ y ∧ (1 ≤ 2 → x ≤ z) ∧ (2 ≤ 2 → y ≤ z)) := by show _ ∧ _ ∧ _; omega
            clear hOo
            go_wp2
            go_quiet (fail)
            go_wp2
            go_roundw
            case rel => exact ⟨2, x, y, z, by omega, rfl, hA, below_drewN hbel nq, HO2⟩
            case measure => simp [intOf]
        · go_wp2
          go_roundw
          case rel => exact ⟨3, x, y, z, by omega, rfl, hA, hbel, ⟨fun _ => hO.out.1, fun _ => hO.out.2.2 (by omega)⟩⟩
          case measure => simp [intOf]
    · have hxy : x ≤ y := hO.out.1 (by omega)
      have hyz : y ≤ z := hO.out.2 (by omega)
      obtain ⟨⟨p0, p1, p2⟩, ⟨f0, f1, f2⟩, x32, y32, z32⟩ := hA.out
      have TB : Hid (∀ W, Below w.heap.size w W → Tab W) := fun W hb => HT.out.keep hpos hb
      have SZ : Hid (∀ (s t : Nat) (w' : World), s ≤ t → t < 4294967296 → Below w.heap.size w w' → Calls Tryd.prog 4 #[.int .u32 s, .int .u32 t] w' fun e w'' => e = .returned (.int .i64 ((t : Int) - (s : Int) + 1)) ∧ Below w'.heap.size w' w'') := fun s t w' h1 h2 hb => by
        have := size_any s t w' h1 h2 (TB.out _ hb)
        rwa [show ((t + 1 - s : Nat) : Int) = (t : Int) - (s : Int) + 1 from by omega] at this
      have N1 : Hid (∀ W W1 : World, ∀ (p : Addr) (v : Value), Below W.heap.size W W1 → W.cell? p = some v → W1.cell? p = some v) := fun W W1 p v hb hc => by
        rw [hb.cell (World.block_lt_of_cell? W _ hc)]; exact hc
      have hs0 := hbel.size
      have HQ : Hid (((z : Int) - (x : Int) + 1 != IntKind.i64.wrap (IntKind.i64.wrap (IntKind.u32.wrap ((z : Int) - (x : Int))) + 1)) = false) := by
        show _ = _
        have e1 : IntKind.u32.wrap ((z : Int) - (x : Int)) = (z : Int) - (x : Int) := by
          simp only [IntKind.wrap, IntKind.signed, IntKind.bits]
          simp; omega
        rw [e1]
        have e2 : IntKind.i64.wrap ((z : Int) - (x : Int)) = (z : Int) - (x : Int) := by rw [IntKind.wrap_i64]; omega
        rw [e2]
        have e3 : IntKind.i64.wrap ((z : Int) - (x : Int) + 1) = (z : Int) - (x : Int) + 1 := by rw [IntKind.wrap_i64]; omega
        rw [e3]; simp
      clear hO f0 f1 f2 HT
      go_wp2
      go_region_held3 (fun w' => w'.cell? ⟨w.heap.size, 0, none⟩ = some (.int .u32 (x : Int)) ∧ w'.cell? ⟨w.heap.size, 1, none⟩ = some (.int .u32 (y : Int)) ∧ w'.cell? ⟨w.heap.size, 2, none⟩ = some (.int .u32 (z : Int))) (go_keep) ((go_at_call 4; refine (SZ.out x z _ (by omega) z32 (by exact hbel.drew)).mono ?_; rintro e w3 ⟨rfl, hb3⟩; have d0 := N1.out _ _ ⟨w.heap.size, 0, none⟩ (.int .u32 (x : Int)) hb3 (by simp [go_sem, *]); have d1 := N1.out _ _ ⟨w.heap.size, 1, none⟩ (.int .u32 (y : Int)) hb3 (by simp [go_sem, *]); have d2 := N1.out _ _ ⟨w.heap.size, 2, none⟩ (.int .u32 (z : Int)) hb3 (by simp [go_sem, *])))
      rw [HQ.out]
      have b3 : Below w.heap.size w w3 := (hbel.drew).trans (hb3.mono hs0)
      have hs3 := b3.size
      by_cases hy : y = 4294967295
      · subst hy
        go_wp2
        go_quiet (fail)
        go_wp2
        go_ret
        exact ⟨rfl, below_drewN b3 _⟩
      · have hy1 : ((y : Int) == 4294967295) = false := by simp; omega
        by_cases hy2 : y = z
        · subst hy2
          go_wp2
          go_quiet (fail)
          go_wp2
          go_ret
          exact ⟨rfl, below_drewN b3 _⟩
        · have hy3 : ((y : Int) == (z : Int)) = false := by simp; omega
          have hy4 : (y : Int) + 1 ≤ 4294967295 := by omega
          have C1 : Hid (∀ w', Below w.heap.size w w' → Calls Tryd.prog 4 #[.int .u32 (x : Int), .int .u32 (y : Int)] w' fun e w'' => e = .returned (.int .i64 ((y : Int) - (x : Int) + 1)) ∧ Below w'.heap.size w' w'') := fun w' hb => SZ.out x y w' hxy y32 hb
          have C3 : Hid (∀ w', Below w.heap.size w w' → Calls Tryd.prog 4 #[.int .u32 (x : Int), .int .u32 (z : Int)] w' fun e w'' => e = .returned (.int .i64 ((z : Int) - (x : Int) + 1)) ∧ Below w'.heap.size w' w'') := fun w' hb => SZ.out x z w' (by omega) z32 hb
          have C2 : Hid (∀ (q : Int) (w' : World), q = (y : Int) + 1 → Below w.heap.size w w' → Calls Tryd.prog 4 #[.int .u32 q, .int .u32 (z : Int)] w' fun e w'' => e = .returned (.int .i64 ((z : Int) - (y : Int))) ∧ Below w'.heap.size w' w'') := fun q w' hq hb => by
            have := SZ.out (y + 1) z w' (by omega) z32 hb
            rw [show ((z : Int) - ((y + 1 : Nat) : Int) + 1) = (z : Int) - (y : Int) from by omega] at this
            rw [hq]
            rwa [show ((y + 1 : Nat) : Int) = (y : Int) + 1 from by omega] at this
          have HQ2 : Hid ((IntKind.i64.wrap ((y : Int) - (x : Int) + 1 + ((z : Int) - (y : Int))) == (z : Int) - (x : Int) + 1) = true) := by
            show _ = _
            have e1 : IntKind.i64.wrap ((y : Int) - (x : Int) + 1 + ((z : Int) - (y : Int))) = (z : Int) - (x : Int) + 1 := by rw [IntKind.wrap_i64]; omega
            rw [e1]; simp
          clear SZ HQ TB hb3
          go_wp2
          clear hxy hyz
          go_region_held3 (fun w' => w'.cell? ⟨w.heap.size, 0, none⟩ = some (.int .u32 (x : Int)) ∧ w'.cell? ⟨w.heap.size, 1, none⟩ = some (.int .u32 (y : Int)) ∧ w'.cell? ⟨w.heap.size, 2, none⟩ = some (.int .u32 (z : Int))) (go_keep) ((first | (go_at_call_of 4 (Value.int IntKind.u32 (y : Int)); refine (C1.out _ (by exact b3.drew)).mono ?_; rintro e w4 ⟨rfl, hb4⟩; have b4 := (b3.drew).trans (hb4.mono hs3); have hs4 := b4.size; have k0 := N1.out _ _ ⟨w.heap.size, 0, none⟩ (.int .u32 (x : Int)) hb4 (by simp [go_sem, *]); have k1 := N1.out _ _ ⟨w.heap.size, 1, none⟩ (.int .u32 (y : Int)) hb4 (by simp [go_sem, *]); have k2 := N1.out _ _ ⟨w.heap.size, 2, none⟩ (.int .u32 (z : Int)) hb4 (by simp [go_sem, *])) | (go_at_call_of 4 (Value.int IntKind.u32 (x : Int)); refine (C3.out _ (by exact b5)).mono ?_; rintro e w6 ⟨rfl, hb6⟩; have b6 := b5.trans (hb6.mono hs5); have n0 := N1.out _ _ ⟨w.heap.size, 0, none⟩ (.int .u32 (x : Int)) hb6 (by simp [go_sem, *]); have n1 := N1.out _ _ ⟨w.heap.size, 1, none⟩ (.int .u32 (y : Int)) hb6 (by simp [go_sem, *]); have n2 := N1.out _ _ ⟨w.heap.size, 2, none⟩ (.int .u32 (z : Int)) hb6 (by simp [go_sem, *])) | (go_at_call_of 4 (Value.int IntKind.u32 (z : Int)); refine (C2.out _ _ (by first | rfl | omega | (simp only [IntKind.wrap, IntKind.signed, IntKind.bits]; simp; omega)) (by exact b4)).mono ?_; rintro e w5 ⟨rfl, hb5⟩; have b5 := b4.trans (hb5.mono hs4); have hs5 := b5.size; have m0 := N1.out _ _ ⟨w.heap.size, 0, none⟩ (.int .u32 (x : Int)) hb5 (by simp [go_sem, *]); have m1 := N1.out _ _ ⟨w.heap.size, 1, none⟩ (.int .u32 (y : Int)) hb5 (by simp [go_sem, *]); have m2 := N1.out _ _ ⟨w.heap.size, 2, none⟩ (.int .u32 (z : Int)) hb5 (by simp [go_sem, *]))))
          rw [HQ2.out]
          go_wp2
          go_ret
          exact ⟨rfl, b6⟩
end Go.Proofs.YthdmbggpokaggabDoor
