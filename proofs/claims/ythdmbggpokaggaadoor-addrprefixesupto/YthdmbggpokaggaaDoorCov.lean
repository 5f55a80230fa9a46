/-
  Contracts of TrailingZeros32, widest and Cover (package addr): the greedy cover.
-/
import Derived.Test.YthdmbggpokaggaaDoorChecked
import Derived.Test.YthdmbggpokaggaaDoorLen
import Derived.Test.YthdmbggpokaggaaDoorMath
import Derived.WalkKit
import Derived.WalkLawsBesides
import Derived.Laws.BitsAllLaws
import Derived.Deep.AppendLies
import Derived.Below
import Derived.Lib.Hide
namespace Go.Proofs.YthdmbggpokaggaaDoor
open Go.RowKit
set_option linter.unusedVariables false

theorem ret_int {k : IntKind} {a b : Int} (h : a = b) : Ending.returned (.int k a) = .returned (.int k b) := by rw [h]
theorem ret_bool {a b : Bool} (h : a = b) : Ending.returned (.bool a) = .returned (.bool b) := by rw [h]

/-- The table of TrailingZeros32 lies in its variable. -/
def Tab (w : World) : Prop := ∀ j, j < 32 → w.cell? ⟨0, j, none⟩ = some (.int .u8 ((Lib.deBruijn32tab.getD j 0 : Nat) : Int))
theorem Tab.size {w : World} (h : Tab w) : 0 < w.heap.size := by
  have := h 0 (by omega)
  apply Nat.pos_of_ne_zero
  intro hz
  simp [World.cell?, hz] at this
theorem Tab.keep {w w1 : World} {B : Nat} (h : Tab w) (hB : 0 < B) (hb : Below B w w1) : Tab w1 := fun j hj => by
  rw [hb.cell (p := ⟨0, j, none⟩) hB]; exact h j hj

theorem tz_key (x a : Nat) (hx : x < 4294967296) (hx0 : x ≠ 0) (hlow : x &&& (4294967296 - x) = a) :
    bits BinOp.and IntKind.u32 (x : Int) (-(x : Int) % 4294967296) * 125613361 % 4294967296 / 134217728 = ((a * 125613361 % 4294967296 / 134217728 : Nat) : Int) := by
  have e1 : -(x : Int) % 4294967296 = ((4294967296 - x : Nat) : Int) := by omega
  rw [e1, u32_and_nat x _ hx (by omega), hlow]
  omega

set_option maxHeartbeats 1000000 in
theorem tz_core (x k idx : Nat) (w : World) (hx0 : ((x : Int) == 0) = false)
    (key : bits BinOp.and IntKind.u32 (x : Int) (-(x : Int) % 4294967296) * 125613361 % 4294967296 / 134217728 = (idx : Int))
    (hi : idx < 32) (hk : k < 32) (hcell : w.cell? ⟨0, idx, none⟩ = some (.int .u8 k)) :
    Calls Tryd.prog 42 #[.int .u32 x] w fun e w' => e = .returned (.int .i64 k) ∧ w' = w := by
  go_enter Tryd.func42, Tryd.ntmps42
  go_wp2_with (simp only [key])
  go_ret
  exact ⟨rfl, rfl⟩
theorem tz_zero (w : World) :
    Calls Tryd.prog 42 #[.int .u32 0] w fun e w' => e = .returned (.int .i64 32) ∧ w' = w := by
  go_enter Tryd.func42, Tryd.ntmps42
  go_wp2
  go_ret
  exact ⟨rfl, rfl⟩
theorem tz_any (x : Nat) (hx : x < 4294967296) (w : World) (hT : Tab w) :
    Calls Tryd.prog 42 #[.int .u32 x] w fun e w' => e = .returned (.int .i64 (Lib.ctz 32 x)) ∧ w' = w := by
  by_cases hx0 : x = 0
  · subst hx0
    exact tz_zero w
  · obtain ⟨hlow, hk⟩ := Lib.lowest_bit 32 x hx0 hx
    obtain ⟨hi, htab⟩ := Lib.deBruijn32_at _ hk
    have hcell := hT _ hi
    rw [htab] at hcell
    exact tz_core x _ _ w (by simp; omega) (tz_key x _ hx hx0 hlow) hi hk hcell

theorem widest_any (x n : Nat) (w : World) (hx : x < 4294967296) (h1 : 1 ≤ n) (h2 : n ≤ 4294967296) (hT : Tab w) :
    Calls Tryd.prog 34 #[.int .u32 x, .int .u64 n] w fun e w' => e = .returned (.agg #[.int .u32 x, .int .i64 ((32 - gx x n : Nat) : Int)]) ∧ Below w.heap.size w w' := by
  have hc := ctz_le x
  have hl : 1 ≤ Lib.bitLen n ∧ Lib.bitLen n ≤ 64 := by
    obtain ⟨a, _, c⟩ := bitLen_spec n (by omega) (by omega)
    refine ⟨c, ?_⟩
    have : 2 ^ (Lib.bitLen n - 1) ≤ 2 ^ 32 := by omega
    have := (Nat.pow_le_pow_iff_right (by omega : 1 < 2)).1 this
    omega
  have HG : Hid (((32 - gx x n : Nat) : Int) = 32 - min ((Lib.ctz 32 x : Nat) : Int) ((Lib.bitLen n : Nat) - 1 : Int)) := by
    show _ = _
    have := gx_le x n
    unfold gx at *; omega
  have HT : Hid (∀ w', Tab w' → Calls Tryd.prog 42 #[.int .u32 x] w' fun e w'' => e = .returned (.int .i64 (Lib.ctz 32 x)) ∧ w'' = w') := fun w' h => tz_any x hx w' h
  have HL : Hid (∀ w', Calls Tryd.prog 43 #[.int .u64 n] w' fun e w'' => e = .returned (.int .i64 (Lib.bitLen n)) ∧ w'' = w') := fun w' => by
    have := Tryd.bits_Len64 n w' (by omega) (by omega)
    rwa [Int.toNat_natCast] at this
  have T1 : Hid (∀ o, Tab (w.alloc o)) := fun o => hT.keep hT.size ((Below.refl _ _).alloc (Nat.le_refl _) _)
  generalize Lib.ctz 32 x = C at *
  generalize Lib.bitLen n = L at *
  generalize (32 - gx x n : Nat) = G at *
  clear hT
  go_enter Tryd.func34, Tryd.ntmps34
  go_wp2_with fail
  refine (HT.out _ (T1.out _)).mono ?_; rintro e w1 ⟨rfl, rfl⟩
  go_wp2_with fail
  refine (HL.out _).mono ?_; rintro e w1 ⟨rfl, rfl⟩
  go_wp2
  exact bodyPost_ret (v := .agg #[.int .u32 (x : Int), .int .i64 (32 - min (C : Int) ((L : Int) - 1))]) (by simp [results, Tryd.results34, go_sem]) rfl ⟨by rw [HG.out], (Below.refl _ _).alloc (Nat.le_refl _) _⟩

/-- The cells of a list of prefixes. -/
def pcells : List (Nat × Nat) → List Value
  | [] => []
  | (a, b) :: r => .int .u32 (a : Int) :: .int .i64 (b : Int) :: pcells r
theorem pcells_append (l m : List (Nat × Nat)) : pcells (l ++ m) = pcells l ++ pcells m := by
  induction l with
  | nil => rfl
  | cons x l ih => obtain ⟨a, b⟩ := x; simp [pcells, ih]
theorem pcells_length (l : List (Nat × Nat)) : (pcells l).length = l.length * 2 := by
  induction l with
  | nil => rfl
  | cons x l ih => obtain ⟨a, b⟩ := x; simp [pcells, ih]; omega
theorem own_below {w w' : World} {B e size n : Nat} {v : Value} {xs : List Value} (h : w.ownsRow B e size v n xs) (hb : Below w.heap.size w w') : w'.ownsRow B e size v n xs :=
  h.kept (row := none) ⟨hb.os, hb.tape, hb.output, hb.size, fun k hk _ => hb.block k hk⟩ (by cases h : v.ownBlock <;> simp)
theorem info29 : (Tryd.prog.info? 29).map (fun i => (i.zero, i.size, i.bytes)) = some (some (.agg #[.int .u32 0, .int .i64 0]), 2, 16) := by kernel_rfl

theorem cover_no (s t : Nat) (w : World) (h : t < s) :
    Calls Tryd.prog 20 #[.int .u32 s, .int .u32 t] w fun e w' => e = .returned (.tuple #[.slice none 0 0, .int .i64 1]) ∧ w' = w := by
  go_enter Tryd.func20, Tryd.ntmps20
  go_wp2
  go_ret2
  exact ⟨rfl, rfl⟩

set_option maxHeartbeats 2000000 in
theorem cover_any (s t : Nat) (w : World) (h : s ≤ t) (ht : t < 4294967296) (hT : Tab w) :
    Calls Tryd.prog 20 #[.int .u32 s, .int .u32 t] w fun e w' => ∃ v, e = .returned (.tuple #[v, .int .i64 0]) ∧ w'.ownsRow w.heap.size 29 2 v (cov s (t + 1)).length (pcells (cov s (t + 1))) ∧ Below w.heap.size w w' := by
  obtain ⟨i0, hi0, hz0, hz1, hz2⟩ := info_parts info29
  have hpos := hT.size
  have HT := Lib.hid hT
  clear hT
  have hts : ¬ (t < s) := by omega
  have hdt : decide (t < s) = false := by simp; omega
  go_enter Tryd.func20, Tryd.ntmps20
  go_wp2
  go_loopw [6, 7] (fun l a W => ∃ (x : Nat) (dn : List (Nat × Nat)), x ≤ 4294967296 ∧ a = .int .u64 x ∧ W.ownsRow w.heap.size 29 2 l dn.length (pcells dn) ∧ Hid (dn ++ cov x (t + 1) = cov s (t + 1)) ∧ dn.length ≤ x ∧ Below w.heap.size w W) (fun _ a _ => 4294967296 - (intOf a).toNat)
  case atStart => exact ⟨s, [], by omega, rfl, World.ownsRow_nil _ _ _ _, by show _ = _; rfl, Nat.zero_le _, Below.refl _ _⟩
  case round =>
    obtain ⟨x, dn, hx, rfl, hown, HD, hlen, hbel⟩ := hrel
    by_cases hlt : x < t + 1
    · have hx32 : x < 4294967296 := by omega
      have g0 := gx_le x (t + 1 - x)
      have gf := gx_fits x (t + 1 - x) (by omega) (by omega)
      have gp := Nat.two_pow_pos (gx x (t + 1 - x))
      have HS : Hid (cov x (t + 1) = (x, 32 - gx x (t + 1 - x)) :: cov (x + 2 ^ gx x (t + 1 - x)) (t + 1)) := cov_step hlt
      have TW : Hid (Tab wr) := HT.out.keep hpos hbel
      have HW : Hid (∀ w', Tab w' → Calls Tryd.prog 34 #[.int .u32 (x : Int), .int .u64 ((t : Int) + 1 - (x : Int))] w' fun e w'' => e = .returned (.agg #[.int .u32 x, .int .i64 ((32 - gx x (t + 1 - x) : Nat) : Int)]) ∧ Below w'.heap.size w' w'') := fun w' h' => by
        have := widest_any x (t + 1 - x) w' hx32 (by omega) (by omega) h'
        rwa [show ((t + 1 - x : Nat) : Int) = (t : Int) + 1 - (x : Int) from by omega] at this
      have HP : Hid (IntKind.u64.wrap ((x : Int) + IntKind.u64.wrap (2 ^ (32 - (32 - gx x (t + 1 - x))))) = ((x + 2 ^ gx x (t + 1 - x) : Nat) : Int)) := by
        show _ = _
        rw [show 32 - (32 - gx x (t + 1 - x)) = gx x (t + 1 - x) from by omega]
        have e2 : (2 : Int) ^ gx x (t + 1 - x) = ((2 ^ gx x (t + 1 - x) : Nat) : Int) := by simp
        rw [e2]
        generalize 2 ^ gx x (t + 1 - x) = D at *
        rw [IntKind.wrap_u64, IntKind.wrap_u64]
        omega
      have hle : ((32 - gx x (t + 1 - x) : Nat) : Int) ≤ 32 := by omega
      have hge : 0 ≤ ((32 - gx x (t + 1 - x) : Nat) : Int) := by omega
      have hsz := hbel.size
      have olt := hown.lt
      go_wp2_with fail
      refine (HW.out _ TW.out).mono ?_; rintro e w1 ⟨rfl, hb1⟩
      have h01 : Below w.heap.size w w1 := hbel.trans (hb1.mono hsz)
      have hs1 := hb1.size
      have own1 := own_below hown hb1
      generalize hB : (32 - gx x (t + 1 - x) : Nat) = B at *
      have CF : Hid (∀ w2, ((w1.alloc (.cells #[.int .u32 (x : Int), .int .i64 (B : Int)] 29)).alloc (.cells #[.int .u32 (x : Int), .int .i64 (B : Int)] 29)).grownBy w2 u6.ownBlock → w2.cell? ⟨w1.heap.size, 1, none⟩ = some (.int .i64 (B : Int))) := fun w2 hg => by
        rw [hg.cell_far ⟨w1.heap.size, 1, none⟩ (by simp; omega) (fun hh => by have := olt _ hh.symm; simp at this; omega)]
        simp [go_sem]
      go_wp2_with (at_builtin; refine wpList_append_lies _ rfl _ _ _ rfl w.heap.size 29 i0 _ 2 16 Tryd.underlying37 hi0 hz0 hz1 hz2 rfl (by omega) u6 dn.length (pcells dn) rfl ((own1.alloc _).alloc _) ⟨w1.heap.size + 1, 0, none⟩ 1 1 [.int .u32 (x : Int), .int .i64 (B : Int)] rfl rfl (World.news_of_block (cs := #[.int .u32 (x : Int), .int .i64 (B : Int)]) (t := 29) (fr := (0, 0)) (by simpa using heap_alloc_new (w1.alloc (.cells #[.int .u32 (x : Int), .int .i64 (B : Int)] 29)) (.cells #[.int .u32 (x : Int), .int .i64 (B : Int)] 29))) (by simp [Value.oneCell']) (by omega) (by unfold maxLen; omega) (by omega) (by simp; omega) (w1.heap.size + 2) (by simp) ?_; intro g cap w2 own2 hgrow hat hglt; have c2 := CF.out w2 hgrow)
      have hn : (dn ++ [(x, B)]).length = dn.length + 1 := by simp
      have hc : pcells (dn ++ [(x, B)]) = pcells dn ++ [.int .u32 (x : Int), .int .i64 (B : Int)] := by rw [pcells_append]; rfl
      have hd : (dn ++ [(x, B)]) ++ cov (x + 2 ^ gx x (t + 1 - x)) (t + 1) = cov s (t + 1) := by
        rw [← HD.out, HS.out, List.append_assoc]; rfl
      have h02 : Below w.heap.size w w2 := ((h01.alloc (by omega) _).alloc (by simp; omega) _).grown hgrow (by simp; omega) (fun k hk => (olt k hk).1)
      go_roundw
      case rel => exact ⟨x + 2 ^ gx x (t + 1 - x), dn ++ [(x, B)], by omega, by rw [HP.out], by rw [hn, hc]; exact own2, hd, by omega, h02⟩
      case measure =>
        show 4294967296 - (intOf (.int .u64 (IntKind.u64.wrap ((x : Int) + IntKind.u64.wrap (2 ^ (32 - B)))))).toNat < 4294967296 - (intOf (.int .u64 (x : Int))).toNat
        rw [HP.out]; simp only [intOf, Int.toNat_natCast]; omega
    · go_wp2
      go_ret2
      have hd := HD.out
      rw [cov_end hlt, List.append_nil] at hd
      exact ⟨_, rfl, by rw [← hd]; exact hown, hbel⟩
end Go.Proofs.YthdmbggpokaggaaDoor
