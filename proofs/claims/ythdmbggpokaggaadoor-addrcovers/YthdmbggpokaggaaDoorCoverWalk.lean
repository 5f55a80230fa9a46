/-
  The walk of AddrCover.
-/
import Derived.Test.YthdmbggpokaggaaDoorPfx
import Derived.Test.YthdmbggpokaggaaDoorMathB
namespace Go.Proofs.YthdmbggpokaggaaDoor
open Go.RowKit
set_option linter.unusedVariables false

theorem has_in (x a b : Nat) (h1 : b ≤ 32) (h2 : 2 ^ (32 - b) ∣ a) : has a (b : Int) x = inP x (a, b) := by
  unfold has inP wid
  have hc : chk a (b : Int) = 0 := by
    unfold chk wid; rw [if_neg (by omega), if_pos (by simpa using Nat.mod_eq_zero_of_dvd h2)]
  rw [Bool.eq_iff_iff]
  simp only [decide_eq_true_eq, Int.toNat_natCast, hc, true_and]
  have hp := Nat.two_pow_pos (32 - b)
  generalize 2 ^ (32 - b) = D at *
  obtain ⟨c, rfl⟩ := h2
  have e : x - x % D = D * (x / D) := by have := Nat.div_add_mod x D; omega
  rw [e]
  constructor
  · intro h
    have h' := Nat.eq_of_mul_eq_mul_left hp h
    subst h'
    exact ⟨Nat.mul_div_le x D, Nat.lt_mul_div_succ x hp⟩
  · intro ⟨h3, h4⟩
    congr 1
    exact Nat.div_eq_of_lt_le (by rw [Nat.mul_comm]; exact h3) (by rw [Nat.mul_comm, Nat.mul_succ]; exact h4)
theorem chk_fine (a b : Nat) (h1 : b ≤ 32) (h2 : 2 ^ (32 - b) ∣ a) : chk a (b : Int) = 0 := by
  unfold chk wid; rw [if_neg (by omega), if_pos (by simpa using Nat.mod_eq_zero_of_dvd h2)]

/-- The prefixes lie one behind the other in block g. -/
def Lies (g : Nat) (l : List (Nat × Nat)) (W : World) : Prop := g < W.heap.size ∧ ∀ (k a b : Nat), l[k]? = some (a, b) → W.cell? ⟨g, k * 2, none⟩ = some (.int .u32 (a : Int)) ∧ W.cell? ⟨g, k * 2 + 1, none⟩ = some (.int .i64 (b : Int))
theorem Lies.keep {g : Nat} {l : List (Nat × Nat)} {W w1 : World} {B : Nat} (h : Lies g l W) (hB : g < B) (hb : Below B W w1) : Lies g l w1 :=
  ⟨Nat.lt_of_lt_of_le h.1 hb.size, fun k a b hk => ⟨by rw [hb.cell (p := ⟨g, k * 2, none⟩) hB]; exact (h.2 k a b hk).1, by rw [hb.cell (p := ⟨g, k * 2 + 1, none⟩) hB]; exact (h.2 k a b hk).2⟩⟩
theorem pcells_at (l : List (Nat × Nat)) : ∀ (k a b : Nat), l[k]? = some (a, b) → (pcells l)[k * 2]? = some (.int .u32 (a : Int)) ∧ (pcells l)[k * 2 + 1]? = some (.int .i64 (b : Int)) := by
  induction l with
  | nil => intro k a b h; simp at h
  | cons x l ih =>
    intro k a b h
    obtain ⟨c, d⟩ := x
    cases k with
    | zero => simp at h; obtain ⟨rfl, rfl⟩ := h; simp [pcells]
    | succ k =>
      have := ih k a b (by simpa using h)
      rw [show (k + 1) * 2 = k * 2 + 1 + 1 from by omega, show k * 2 + 1 + 1 + 1 = (k * 2 + 1) + 1 + 1 from rfl]
      simpa [pcells] using this
theorem lies_of {w1 : World} {base e n : Nat} {v : Value} {l : List (Nat × Nat)} (h : w1.ownsRow base e 2 v n (pcells l)) (hn : 0 < n) :
    ∃ g cap, v = .slice (some ⟨g, 0, none⟩) n cap ∧ base ≤ g ∧ Lies g l w1 := by
  obtain ⟨g, cap, rfl, hb, hlt⟩ := h.form hn
  refine ⟨g, cap, rfl, hb, hlt, fun k a b hk => ?_⟩
  obtain ⟨h1, h2⟩ := pcells_at l k a b hk
  have c1 := h.cells (g := g) rfl _ _ h1
  have c2 := h.cells (g := g) rfl _ _ h2
  have ad : ∀ j, (⟨g, 0, none⟩ : Addr).add j = ⟨g, j, none⟩ := fun j => by unfold Addr.add; split <;> simp_all
  rw [ad] at c1 c2
  exact ⟨c1, c2⟩

theorem newcells {W w1 : World} {u v : Value} {B : Nat} (hB : W.heap.size < B) (hb : Below B (W.alloc (.cells #[u, v] 29)) w1) : w1.cell? ⟨W.heap.size, 0, none⟩ = some u ∧ w1.cell? ⟨W.heap.size, 1, none⟩ = some v := by
  constructor
  · rw [hb.cell (p := ⟨W.heap.size, 0, none⟩) hB]; simp [go_sem]
  · rw [hb.cell (p := ⟨W.heap.size, 1, none⟩) hB]; simp [go_sem]

set_option maxRecDepth 100000 in
set_option maxHeartbeats 4000000 in
theorem cover_walk (s t x p q : Nat) (w : World) (hs : s < 4294967296) (ht : t < 4294967296) (hx : x < 4294967296) (h : s ≤ t) (hpq : (s = p ∧ t = q) ∨ (s = q ∧ t = p ∧ s < t)) (hT : Tab w) :
    Calls Tryd.prog 7 #[.int .u32 p, .int .u32 q, .int .u32 x] w fun e w' => e = .returned (.bool true) ∧ Below w.heap.size w w' := by
  have HN : Hid (∀ w', Calls Tryd.prog 20 #[.int .u32 1, .int .u32 0] w' fun e w'' => e = .returned (.tuple #[.slice none 0 0, .int .i64 1]) ∧ w'' = w') := fun w' => cover_no 1 0 w' (by omega)
  have HC : Hid (∀ w', Tab w' → Calls Tryd.prog 20 #[.int .u32 s, .int .u32 t] w' fun e w'' => ∃ v, e = .returned (.tuple #[v, .int .i64 0]) ∧ w''.ownsRow w'.heap.size 29 2 v (cov s (t + 1)).length (pcells (cov s (t + 1))) ∧ Below w'.heap.size w' w'') := fun w' h' => cover_any s t w' h ht h'
  have hpos := hT.size
  have HT := Lib.hid hT
  clear hT
  have hL := len_62 s (t + 1) (by omega) (by omega)
  have hL1 := len_pos s (t + 1) (by omega)
  have HM := Lib.hid (cov_mem (t + 1) (by omega) _ s (Nat.le_refl _))
  have HX := Lib.hid (cov_next (t + 1) (by omega) _ s · (Nat.le_refl _))
  have HCnt := Lib.hid (cov_count (t + 1) x (by omega) _ s (Nat.le_refl _))
  generalize cov s (t + 1) = L at *
  have hdd : (s = p ∧ t = q ∧ ¬ (t < s) ∧ decide (t < s) = false) ∨ (s = q ∧ t = p ∧ s < t ∧ decide (s < t) = true) := by
    rcases hpq with ⟨e1, e2⟩ | ⟨e1, e2, e3⟩
    · left; exact ⟨e1, e2, by omega, by simp; omega⟩
    · right; exact ⟨e1, e2, e3, by simpa using e3⟩
  clear hpq
  rcases hdd with ⟨rfl, rfl, hts, hdt⟩ | ⟨rfl, rfl, hts, hdt⟩
  all_goals
   go_enter Tryd.func7, Tryd.ntmps7
   go_wp2_with fail
   refine (HN.out _).mono ?_; rintro e w1 ⟨rfl, hw⟩
   rw [hw]
   clear hw w1
   go_wp2_with fail
   refine (HC.out _ HT.out).mono ?_; rintro e w1 ⟨v, rfl, hown, hb1⟩
   obtain ⟨g, cap, rfl, hg, hl⟩ := lies_of hown (by omega)
   have HLs := Lib.hid hl
   clear hl hown
   generalize hn : L.length = n at *
   have hz0 : ((n : Int) == 0) = false := by simp; omega
   have hz1 : ¬ (62 < (n : Int)) := by omega
   have hz2 : decide (62 < (n : Int)) = false := by simp; omega
   go_wp2
   go_loopw [11, 47] (fun m i W => ∃ k : Nat, k ≤ n ∧ i = .int .i64 k ∧ m = .int .i64 ((L.take k).countP (inP x) : Nat) ∧ Hid (Lies g L W) ∧ Below w.heap.size w W) (fun _ i _ => n - (intOf i).toNat)
   case atStart => exact ⟨0, Nat.zero_le _, rfl, rfl, HLs, hb1⟩
   case round =>
     obtain ⟨k, hk, rfl, rfl, hli, hbel⟩ := hrel
     have hcl : (L.take k).countP (inP x) ≤ k := Nat.le_trans List.countP_le_length (List.length_take_le _ _)
     by_cases hlt : k < n
     · obtain ⟨⟨a, b⟩, hab⟩ : ∃ p, L[k]? = some p := ⟨L[k], List.getElem?_eq_getElem (by omega)⟩
       obtain ⟨m1, m2, m3, m4⟩ := HM.out (a, b) (List.mem_of_getElem? hab)
       simp only at m1 m2 m3 m4
       have hp2 := Nat.two_pow_pos (32 - b)
       have ha : a < 4294967296 := by omega
       obtain ⟨ca, cb⟩ := hli.out.2 k a b hab
       have HCs : Hid ((L.take (k + 1)).countP (inP x) = (L.take k).countP (inP x) + if inP x (a, b) = true then 1 else 0) := by
         show _ = _
         rw [List.take_add_one, hab, List.countP_append]; simp [List.countP_cons]
       have HK : Hid (∀ w', Calls Tryd.prog 16 #[.agg #[.int .u32 a, .int .i64 b]] w' fun e w'' => e = .returned (.int .i64 0) ∧ Below w'.heap.size w' w'') := fun w' => by
         have := check_any a b w' ha
         rwa [chk_fine a b m1 m2] at this
       have HH : Hid (∀ w', Calls Tryd.prog 18 #[.agg #[.int .u32 a, .int .i64 b], .int .u32 x] w' fun e w'' => e = .returned (.bool (inP x (a, b))) ∧ Below w'.heap.size w' w'') := fun w' => by
         have := has_any a x b w' ha hx
         rwa [has_in x a b m1 m2] at this
       have hg1 := hli.out.1
       have hs0 := hbel.size
       generalize hi : inP x (a, b) = c at *
       clear hi
       generalize (L.take k).countP (inP x) = q at *
       rcases Nat.eq_zero_or_pos k with rfl | hk0
       · have HAB := Lib.hid hab
         clear hab
         go_wp2_with fail
         refine (HK.out _).mono ?_; rintro e w2 ⟨rfl, hb2⟩
         obtain ⟨d0, d1⟩ := newcells (by simp) hb2
         have hs2 : wr.heap.size + 1 ≤ w2.heap.size := by have := hb2.size; simpa using this
         have b02 : Below w.heap.size w w2 := (hbel.alloc hs0 _).trans (hb2.mono (by simp; omega))
         have l2 : Lies g L w2 := (hli.out.keep hg1 ((Below.refl _ _).alloc (Nat.le_refl _) _)).keep (by simp; omega) hb2
         have L2 := Lib.hid l2
         clear l2
         go_wp2_with fail
         refine (HH.out _).mono ?_; rintro e w3 ⟨rfl, hb3⟩
         have b03 : Below w.heap.size w w3 := b02.trans (hb3.mono (by omega))
         have L3 : Hid (Lies g L w3) := L2.out.keep (by omega) hb3
         cases c
         · go_wp2
           go_roundw
           case rel => exact ⟨1, by omega, by go_num, by rw [HCs.out]; rfl, L3, b03⟩
           case measure => simp [intOf]; omega
         · go_wp2
           go_roundw
           case rel => exact ⟨1, by omega, by go_num, by rw [HCs.out]; go_num, L3, b03⟩
           case measure => simp [intOf]; omega
       · obtain ⟨j, rfl⟩ : ∃ j, k = j + 1 := ⟨k - 1, by omega⟩
         obtain ⟨⟨qa, qb⟩, hqb⟩ : ∃ p, L[j]? = some p := ⟨L[j], List.getElem?_eq_getElem (by omega)⟩
         obtain ⟨n1, n2, n3, n4⟩ := HM.out (qa, qb) (List.mem_of_getElem? hqb)
         simp only at n1 n2 n3 n4
         have hq2 := Nat.two_pow_pos (32 - qb)
         have hqa : qa < 4294967296 := by omega
         obtain ⟨x1, x2⟩ := HX.out j (qa, qb) (a, b) hqb hab
         simp only at x1 x2
         have HAB := Lib.hid hab
         have HQB := Lib.hid hqb
         have X2 := Lib.hid x2
         clear hab hqb x2
         go_wp2_with fail
         refine (HK.out _).mono ?_; rintro e w2 ⟨rfl, hb2⟩
         obtain ⟨d0, d1⟩ := newcells (by simp) hb2
         have hs2 : wr.heap.size + 1 ≤ w2.heap.size := by have := hb2.size; simpa using this
         have b02 : Below w.heap.size w w2 := (hbel.alloc hs0 _).trans (hb2.mono (by simp; omega))
         have l2 : Lies g L w2 := (hli.out.keep hg1 ((Below.refl _ _).alloc (Nat.le_refl _) _)).keep (by simp; omega) hb2
         have L2 := Lib.hid l2
         clear l2
         go_wp2_with fail
         refine (HH.out _).mono ?_; rintro e w3 ⟨rfl, hb3⟩
         have hs3 := hb3.size
         have b03 : Below w.heap.size w w3 := b02.trans (hb3.mono (by omega))
         have L3 : Hid (Lies g L w3) := L2.out.keep (by omega) hb3
         obtain ⟨qc, qd⟩ := L3.out.2 j qa qb HQB.out
         have d2 : ∀ o, (w3.alloc o).cell? ⟨wr.heap.size, 0, none⟩ = some (.int .u32 (a : Int)) := fun o => by rw [((Below.refl _ _).alloc (Nat.le_refl _) o : Below w3.heap.size w3 (w3.alloc o)).cell (p := ⟨wr.heap.size, 0, none⟩) (by show wr.heap.size < _; omega), hb3.cell (p := ⟨wr.heap.size, 0, none⟩) (by show wr.heap.size < _; omega)]; exact d0
         have d3 : ∀ o, (w3.alloc o).cell? ⟨wr.heap.size, 1, none⟩ = some (.int .i64 (b : Int)) := fun o => by rw [((Below.refl _ _).alloc (Nat.le_refl _) o : Below w3.heap.size w3 (w3.alloc o)).cell (p := ⟨wr.heap.size, 1, none⟩) (by show wr.heap.size < _; omega), hb3.cell (p := ⟨wr.heap.size, 1, none⟩) (by show wr.heap.size < _; omega)]; exact d1
         clear d0 d1 ca cb
         have hSb : 2 ^ (32 - b) ≤ 4294967296 := pow_le b
         have hS : IntKind.u64.wrap ((2 : Int) ^ (32 - b)) = ((2 ^ (32 - b) : Nat) : Int) := by
           have e2 : (2 : Int) ^ (32 - b) = ((2 ^ (32 - b) : Nat) : Int) := by simp
           rw [e2, IntKind.wrap_u64]; omega
         clear m2
         generalize (2 ^ (32 - b) : Nat) = S at *
         have x1' : ¬ (a ≤ qa) := by omega
         have b04 : ∀ o, Below w.heap.size w (w3.alloc o) := fun o => b03.alloc (by omega) o
         have L4 : Hid (∀ o, Hid (Lies g L (w3.alloc o))) := fun o => L3.out.keep (by omega) ((Below.refl _ _).alloc (Nat.le_refl _) o)
         have hr : ((qb : Int) == (b : Int)) = false ∨ (qb = b ∧ (((qa : Int) % (2 * (S : Int)) == 0) = false)) ∨ (qb = b ∧ ((qa : Int) % (2 * (S : Int)) = 0) ∧ (((qa : Int) + (S : Int) == (a : Int)) = false)) := by
           by_cases e1 : qb = b
           · right
             by_cases e2 : qa % (2 * S) = 0
             · right
               have e3 : ¬ (qa + S = a) := fun h' => X2.out ⟨e1, e2, h'⟩
               exact ⟨e1, by exact_mod_cast e2, by simp; omega⟩
             · left
               exact ⟨e1, by simp only [beq_eq_false_iff_ne]; intro h'; exact e2 (by exact_mod_cast h')⟩
           · left; simp; omega
         have HR := Lib.hid hr
         clear hr X2
         have hc2 : (c = true ∧ (L.take (j + 1 + 1)).countP (inP x) = q + 1) ∨ (c = false ∧ (L.take (j + 1 + 1)).countP (inP x) = q) := by
           have := HCs.out
           cases c
           · right; exact ⟨rfl, by simpa using this⟩
           · left; exact ⟨rfl, by simpa using this⟩
         have H2 := Lib.hid hc2
         clear hc2 HCs
         rcases H2.out with ⟨rfl, e2⟩ | ⟨rfl, e2⟩ <;> have E2 := Lib.hid e2 <;> clear e2 H2 <;> rcases HR.out with hq | ⟨rfl, hq⟩ | ⟨rfl, hq, hq2⟩ <;> clear HR
         all_goals
           go_wp2
           all_goals
             go_roundw
             case rel => exact ⟨j + 1 + 1, by omega, by go_num, by rw [E2.out] <;> go_num, L4.out _, b04 _⟩
             case measure => simp [intOf]; omega
     · have htk : L.take k = L := List.take_of_length_le (by omega)
       rw [htk]
       by_cases hin : s ≤ x ∧ x ≤ t
       · have e1 : L.countP (inP x) = 1 := by rw [HCnt.out, if_pos (by omega)]
         rw [e1]
         obtain ⟨hi1, hi2⟩ := hin
         go_wp2
         go_ret
         exact ⟨rfl, hbel⟩
       · have e1 : L.countP (inP x) = 0 := by rw [HCnt.out, if_neg (by omega)]
         rw [e1]
         by_cases hi1 : s ≤ x
         · have hi2 : ¬ x ≤ t := fun h' => hin ⟨hi1, h'⟩
           clear hin
           go_wp2
           go_ret
           exact ⟨rfl, hbel⟩
         · clear hin
           go_wp2
           go_ret
           exact ⟨rfl, hbel⟩
end Go.Proofs.YthdmbggpokaggaaDoor
