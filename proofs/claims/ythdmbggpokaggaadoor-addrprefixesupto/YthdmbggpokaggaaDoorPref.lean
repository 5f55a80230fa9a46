/-
  Contracts of PrintPrefix and ParsePrefix (package addr).
-/
import Derived.Test.YthdmbggpokaggaaDoorParse
import Derived.Laws.IdiomStrings
namespace Go.Proofs.YthdmbggpokaggaaDoor
open Go.RowKit
set_option linter.unusedVariables false

def pprtL (a b : Nat) : List UInt8 := prtL a ++ 47 :: Lib.decDigits b
def pparseL (l : List UInt8) : Option (Nat × Nat) := match numL 32 (cutL 47 l).2.1 with
  | none => none
  | some n => match parseL (cutL 47 l).1 with
    | none => none
    | some a => if chk a (n : Int) = 0 then some (a, n) else none
theorem prt_no (a : Nat) : 47 ∉ prtL a := by
  have hd : isDig 47 = false := by decide
  unfold prtL
  simp only [List.mem_append, List.mem_cons, not_or]
  exact ⟨dec_no hd _, by decide, dec_no hd _, by decide, dec_no hd _, by decide, dec_no hd _⟩
theorem pparse_print (a b : Nat) (ha : a < 4294967296) (hb : b ≤ 32) (hc : chk a (b : Int) = 0) : pparseL (pprtL a b) = some (a, b) := by
  unfold pparseL pprtL
  rw [cutL_hit 47 _ _ (prt_no a)]
  simp only [numL_dec 32 b hb, parse_print a ha]
  rw [if_pos hc]
theorem pparse_fine {l : List UInt8} {a b : Nat} (h : pparseL l = some (a, b)) : chk a (b : Int) = 0 ∧ a < 4294967296 ∧ b ≤ 32 := by
  unfold pparseL at h
  split at h
  · cases h
  · rename_i n hn
    split at h
    · cases h
    · rename_i c hc
      split at h
      · rename_i hk
        have := Option.some.inj h
        simp only [Prod.mk.injEq] at this
        obtain ⟨rfl, rfl⟩ := this
        exact ⟨hk, (print_parse hc).2, (dec_of_numL hn).2⟩
      · cases h
theorem prt_len (a : Nat) (h : a < 4294967296) : (prtL a).length ≤ 15 := by
  have l0 := dec_len (a / 16777216) (by omega)
  have l1 := dec_len (a / 65536 % 256) (by omega)
  have l2 := dec_len (a / 256 % 256) (by omega)
  have l3 := dec_len (a % 256) (by omega)
  unfold prtL
  simp; omega

theorem pprint_no (a : Nat) (b : Int) (w : World) (ha : a < 4294967296) (hc : chk a b ≠ 0) :
    Calls Tryd.prog 14 #[.agg #[.int .u32 a, .int .i64 b]] w fun e w' => e = .returned (.tuple #[.string ByteArray.empty, .int .i64 (chk a b)]) ∧ Below w.heap.size w w' := by
  have HK : Hid (∀ w', Calls Tryd.prog 16 #[.agg #[.int .u32 a, .int .i64 b]] w' fun e w'' => e = .returned (.int .i64 (chk a b)) ∧ Below w'.heap.size w' w'') := fun w' => check_any a b w' ha
  have hz : (chk a b == 0) = false := by simpa using hc
  generalize chk a b = C at *
  clear hc
  go_enter Tryd.func14, Tryd.ntmps14
  go_wp2_with fail
  refine (HK.out _).mono ?_; rintro e w1 ⟨rfl, hb1⟩
  go_wp2
  go_ret2
  exact ⟨rfl, ((Below.refl _ _).alloc (Nat.le_refl _) _).trans (hb1.mono (by simp))⟩

set_option maxHeartbeats 2000000 in
theorem pprint_yes (a b : Nat) (w : World) (ha : a < 4294967296) (hb : b ≤ 32) (hc : chk a (b : Int) = 0) (hp : Pow w) :
    Calls Tryd.prog 14 #[.agg #[.int .u32 a, .int .i64 b]] w fun e w' => e = .returned (.tuple #[.string ⟨(pprtL a b).toArray⟩, .int .i64 0]) ∧ Below w.heap.size w w' := by
  have HK : Hid (∀ w', Calls Tryd.prog 16 #[.agg #[.int .u32 a, .int .i64 b]] w' fun e w'' => e = .returned (.int .i64 0) ∧ Below w'.heap.size w' w'') := fun w' => by
    have := check_any a b w' ha
    rwa [hc] at this
  have HPr : Hid (∀ w', Pow w' → Calls Tryd.prog 10 #[.int .u32 a] w' fun e w'' => e = .returned (.string ⟨(prtL a).toArray⟩) ∧ Below w'.heap.size w' w'') := fun w' h' => print_any a ha w' h'
  have HIt : Hid (∀ w', Calls Tryd.prog 30 #[.int .i64 b] w' fun e w'' => e = .returned (.string ⟨(Lib.decDigits b).toArray⟩) ∧ w'' = w') := fun w' => Tryd.strconv_Itoa_small b (by omega) w'
  have N1 : Hid (∀ W W1 : World, ∀ (p : Addr) (v : Value), Below W.heap.size W W1 → W.cell? p = some v → W1.cell? p = some v) := fun W W1 p v hb hc => by
    rw [hb.cell (World.block_lt_of_cell? W _ hc)]; exact hc
  have l1 := prt_len a ha
  have l2 := dec_len b (by omega)
  have HE : Hid ((⟨(pprtL a b).toArray⟩ : ByteArray) = ((⟨(prtL a).toArray⟩ : ByteArray) ++ ⟨#[47]⟩) ++ ⟨(Lib.decDigits b).toArray⟩) := by
    show _ = _
    rw [show (⟨#[47]⟩ : ByteArray) = ⟨[47].toArray⟩ from rfl]
    simp only [ba_app]
    unfold pprtL
    simp
  have HP := Lib.hid hp
  have ad1 : ∀ w', (Op.stringOp .add (⟨(prtL a).toArray⟩ : ByteArray) ⟨#[47]⟩).run Tryd.prog w' = .ok (.string ((⟨(prtL a).toArray⟩ : ByteArray) ++ ⟨#[47]⟩)) w' := fun w' => run_string_add_sum w' _ _ (by rw [ba_size]; show (prtL a).length + 1 ≤ _; omega)
  have ad2 : ∀ w', (Op.stringOp .add ((⟨(prtL a).toArray⟩ : ByteArray) ++ ⟨#[47]⟩) ⟨(Lib.decDigits b).toArray⟩).run Tryd.prog w' = .ok (.string ((⟨(prtL a).toArray⟩ : ByteArray) ++ ⟨#[47]⟩ ++ ⟨(Lib.decDigits b).toArray⟩)) w' := fun w' => run_string_add_sum w' _ _ (by rw [ByteArray.size_append, ba_size (prtL a), ba_size (Lib.decDigits b)]; show (prtL a).length + 1 + _ ≤ _; omega)
  clear hp hc
  generalize (⟨(prtL a).toArray⟩ : ByteArray) ++ ⟨#[47]⟩ ++ ⟨(Lib.decDigits b).toArray⟩ = Z3 at *
  generalize (⟨(prtL a).toArray⟩ : ByteArray) ++ ⟨#[47]⟩ = Z2 at *
  generalize (⟨(prtL a).toArray⟩ : ByteArray) = Z1 at *
  generalize (⟨(Lib.decDigits b).toArray⟩ : ByteArray) = Z0 at *
  have c0 : (w.alloc (.cells #[.int .u32 (a : Int), .int .i64 (b : Int)] 29)).cell? ⟨w.heap.size, 0, none⟩ = some (.int .u32 (a : Int)) := by simp [go_sem]
  have c1 : (w.alloc (.cells #[.int .u32 (a : Int), .int .i64 (b : Int)] 29)).cell? ⟨w.heap.size, 1, none⟩ = some (.int .i64 (b : Int)) := by simp [go_sem]
  have b0 : Below w.heap.size w (w.alloc (.cells #[.int .u32 (a : Int), .int .i64 (b : Int)] 29)) := (Below.refl _ _).alloc (Nat.le_refl _) _
  have C0 := Lib.hid c0
  have C1 := Lib.hid c1
  clear c0 c1
  go_enter Tryd.func14, Tryd.ntmps14
  go_wp2_with fail
  refine (HK.out _).mono ?_; rintro e w1 ⟨rfl, hb1⟩
  have d0 := N1.out _ _ _ _ hb1 C0.out
  have d1 := N1.out _ _ _ _ hb1 C1.out
  have b1 := b0.trans (hb1.mono (by simp))
  have s1 := b1.size
  have P1 : Hid (Pow w1) := HP.out.keep b1
  go_wp2
  go_region_held3 (fun w' => w'.cell? ⟨w.heap.size, 0, none⟩ = some (.int .u32 (a : Int)) ∧ w'.cell? ⟨w.heap.size, 1, none⟩ = some (.int .i64 (b : Int))) (go_keep) ((first | (go_at_call 10; refine (HPr.out _ (by exact P1.out)).mono ?_; rintro e w2 ⟨rfl, hb2⟩; have e0 := N1.out _ _ ⟨w.heap.size, 0, none⟩ (.int .u32 (a : Int)) hb2 (by simp [go_sem, *]); have e1 := N1.out _ _ ⟨w.heap.size, 1, none⟩ (.int .i64 (b : Int)) hb2 (by simp [go_sem, *])) | (go_at_call 30; refine (HIt.out _).mono ?_; rintro e w3 ⟨rfl, rfl⟩)))
  all_goals
    go_wp2
    go_ret2
    exact ⟨by rw [HE.out]; rfl, b1.drew.trans (hb2.mono s1)⟩

theorem put2 {W : World} {h : Nat} {x y : Value} (e0 : W.cell? ⟨h, 0, none⟩ = some x) (e1 : W.cell? ⟨h, 1, none⟩ = some y) (u v : Value) :
    ((W.setCell ⟨h, 0, none⟩ u).setCell ⟨h, 1, none⟩ v).cell? ⟨h, 0, none⟩ = some u ∧ ((W.setCell ⟨h, 0, none⟩ u).setCell ⟨h, 1, none⟩ v).cell? ⟨h, 1, none⟩ = some v := by
  have k1 : (W.setCell ⟨h, 0, none⟩ u).cell? ⟨h, 1, none⟩ = some y := by
    rw [World.cell?_setCell_other (w := W) (h := fun h => by injection h with _ h2; cases h2)]; exact e1
  refine ⟨?_, World.cell?_setCell_same (W.setCell ⟨h, 0, none⟩ u) ⟨h, 1, none⟩ v k1⟩
  rw [World.cell?_setCell_other (w := W.setCell ⟨h, 0, none⟩ u) (h := fun h => by injection h with _ h2; cases h2)]
  exact World.cell?_setCell_same W ⟨h, 0, none⟩ u e0
/-- A prefix's block of the call's own. -/
def Blk (w : World) (x y : Value) (W : World) : Prop := W.cell? ⟨w.heap.size, 0, none⟩ = some x ∧ W.cell? ⟨w.heap.size, 1, none⟩ = some y ∧ W.frozen? ⟨w.heap.size, 0, none⟩ = false ∧ W.frozen? ⟨w.heap.size, 1, none⟩ = false ∧ Below w.heap.size w W
theorem blk_new (w : World) (x y : Value) : Blk w x y (w.alloc (.cells #[x, y] 29)) := ⟨by simp [go_sem], by simp [go_sem], by simp [go_sem], by simp [go_sem], (Below.refl _ _).alloc (Nat.le_refl _) _⟩
theorem Blk.drewN {w W : World} {x y : Value} (h : Blk w x y W) (q : Nat) : Blk w x y (W.drewN q) := ⟨h.1, h.2.1, h.2.2.1, h.2.2.2.1, below_drewN h.2.2.2.2 q⟩
theorem Blk.keep {w W W1 : World} {x y : Value} (h : Blk w x y W) (hb : Below W.heap.size W W1) : Blk w x y W1 := by
  have hlt : w.heap.size < W.heap.size := World.block_lt_of_cell? W _ h.1
  exact ⟨(hb.cell (p := ⟨w.heap.size, 0, none⟩) hlt).trans h.1, (hb.cell (p := ⟨w.heap.size, 1, none⟩) hlt).trans h.2.1, (hb.frozen (p := ⟨w.heap.size, 0, none⟩) hlt).trans h.2.2.1, (hb.frozen (p := ⟨w.heap.size, 1, none⟩) hlt).trans h.2.2.2.1, h.2.2.2.2.trans (hb.mono (by omega))⟩
theorem Blk.put {w W : World} {x y : Value} (h : Blk w x y W) (u v : Value) : Blk w u v ((W.setCell ⟨w.heap.size, 0, none⟩ u).setCell ⟨w.heap.size, 1, none⟩ v) := by
  obtain ⟨k0, k1⟩ := put2 h.1 h.2.1 u v
  exact ⟨k0, k1, by rw [World.frozen?_setCell, World.frozen?_setCell]; exact h.2.2.1, by rw [World.frozen?_setCell, World.frozen?_setCell]; exact h.2.2.2.1, (h.2.2.2.2.setCell (p := ⟨w.heap.size, 0, none⟩) (Nat.le_refl _) u).setCell (p := ⟨w.heap.size, 1, none⟩) (Nat.le_refl _) v⟩

/-- How ParsePrefix ends. -/
def pended (o : Option (Nat × Nat)) : Value := .tuple #[.agg #[.int .u32 (((o.getD (0, 0)).1 : Nat) : Int), .int .i64 (((o.getD (0, 0)).2 : Nat) : Int)], .int .i64 (if o.isSome then 0 else 4)]

set_option maxHeartbeats 2000000 in
theorem pparse_any (l : List UInt8) (w : World) (hl : l.length ≤ 281474976710656) :
    Calls Tryd.prog 12 #[.string ⟨l.toArray⟩] w fun e w' => e = .returned (pended (pparseL l)) ∧ Below w.heap.size w w' := by
  have HCt : Hid (∀ w', Calls Tryd.prog 23 #[.string ⟨l.toArray⟩, .string ⟨#[47]⟩] w' fun e w'' => e = .returned (.tuple #[.string ⟨(cutL 47 l).1.toArray⟩, .string ⟨(cutL 47 l).2.1.toArray⟩, .bool (cutL 47 l).2.2]) ∧ ∃ n, w'' = w'.drewN n) := fun w' => cuts_any 47 l w' hl
  have hll := cutL_len 47 l
  have HNm : Hid (∀ w', Calls Tryd.prog 24 #[.string ⟨(cutL 47 l).2.1.toArray⟩, .int .u32 32] w' fun e w'' => e = .returned (.tuple #[.int .u32 (((numL 32 (cutL 47 l).2.1).getD 0 : Nat) : Int), .bool (numL 32 (cutL 47 l).2.1).isSome]) ∧ w'' = w') := fun w' => number_any 32 _ w' (by omega) (by omega)
  have HPs : Hid (∀ w', Calls Tryd.prog 8 #[.string ⟨(cutL 47 l).1.toArray⟩] w' fun e w'' => e = .returned (ended (parseL (cutL 47 l).1)) ∧ ∃ n, w'' = w'.drewN n) := fun w' => parse_any _ w' (by omega)
  have HR : Hid (pparseL l = match numL 32 (cutL 47 l).2.1 with | none => none | some n => match parseL (cutL 47 l).1 with | none => none | some a => if chk a (n : Int) = 0 then some (a, n) else none) := rfl
  have HN2 : Hid (∀ n, numL 32 (cutL 47 l).2.1 = some n → n ≤ 32) := fun n h => (dec_of_numL h).2
  have HP2 : Hid (∀ n, parseL (cutL 47 l).1 = some n → n < 4294967296) := fun n h => (print_parse h).2
  have HK : Hid (∀ (a n : Nat) w', a < 4294967296 → Calls Tryd.prog 16 #[.agg #[.int .u32 a, .int .i64 n]] w' fun e w'' => e = .returned (.int .i64 (chk a n)) ∧ Below w'.heap.size w' w'') := fun a n w' h => check_any a n w' h
  have b0 : Below w.heap.size w (w.alloc (.cells #[.int .u32 0, .int .i64 0] 29)) := (Below.refl _ _).alloc (Nat.le_refl _) _
  generalize cutL 47 l = R at *
  obtain ⟨A, B, D⟩ := R
  simp only at HCt HNm HPs HR HN2 HP2
  rcases hx : numL 32 B with _ | n
  · have hp : pparseL l = none := by rw [HR.out, hx]
    rw [hx] at HNm
    clear hx HR HN2 HP2
    go_enter Tryd.func12, Tryd.ntmps12
    go_wp2_with fail
    refine (HCt.out _).mono ?_; rintro e w1 ⟨rfl, q1, rfl⟩
    have K1 := Lib.hid ((blk_new w (.int .u32 0) (.int .i64 0)).drewN q1)
    generalize (w.alloc (.cells #[.int .u32 0, .int .i64 0] 29)).drewN q1 = W1 at *
    obtain ⟨p0, p1, f0, f1, _⟩ := K1.out
    go_wp2_with fail
    refine (HNm.out _).mono ?_; rintro e w1 ⟨rfl, hw⟩; rw [hw]; clear hw w1
    go_wp2
    have K2 := K1.out.put (.int .u32 0) (.int .i64 0)
    generalize ((W1.setCell ⟨w.heap.size, 0, none⟩ (.int .u32 0)).setCell ⟨w.heap.size, 1, none⟩ (.int .i64 0)) = W2 at *
    clear p0 p1 f0 f1
    obtain ⟨p0, p1, _, _, hb⟩ := K2
    exact bodyPost_ret (v := .tuple #[.agg #[.int .u32 0, .int .i64 0], .int .i64 4]) (by simp [results, Tryd.results12, go_sem, p0, p1]) rfl ⟨by rw [hp]; rfl, hb⟩
  · have hn := HN2.out n hx
    rw [hx] at HNm
    rcases hy : parseL A with _ | a
    · have hp : pparseL l = none := by rw [HR.out, hx]; simp only; rw [hy]
      rw [hy] at HPs
      have HPs2 : Hid (∀ w', Calls Tryd.prog 8 #[.string ⟨A.toArray⟩] w' fun e w'' => e = .returned (.tuple #[.int .u32 0, .int .i64 4]) ∧ ∃ n, w'' = w'.drewN n) := HPs.out
      clear hx hy HR HN2 HP2 HPs
      go_enter Tryd.func12, Tryd.ntmps12
      go_wp2_with fail
      refine (HCt.out _).mono ?_; rintro e w1 ⟨rfl, q1, rfl⟩
      have K1 := Lib.hid ((blk_new w (.int .u32 0) (.int .i64 0)).drewN q1)
      generalize (w.alloc (.cells #[.int .u32 0, .int .i64 0] 29)).drewN q1 = W1 at *
      go_wp2_with fail
      refine (HNm.out _).mono ?_; rintro e w1 ⟨rfl, hw⟩; rw [hw]; clear hw w1
      go_wp2_with fail
      refine (HPs2.out _).mono ?_; rintro e w1 ⟨rfl, q2, rfl⟩
      have K1b := Lib.hid (K1.out.drewN q2)
      generalize W1.drewN q2 = W1b at *
      obtain ⟨p0, p1, f0, f1, _⟩ := K1b.out
      go_wp2
      have K2 := K1b.out.put (.int .u32 0) (.int .i64 0)
      generalize ((W1b.setCell ⟨w.heap.size, 0, none⟩ (.int .u32 0)).setCell ⟨w.heap.size, 1, none⟩ (.int .i64 0)) = W2 at *
      clear p0 p1 f0 f1
      obtain ⟨p0, p1, _, _, hb⟩ := K2
      exact bodyPost_ret (v := .tuple #[.agg #[.int .u32 0, .int .i64 0], .int .i64 4]) (by simp [results, Tryd.results12, go_sem, p0, p1]) rfl ⟨by rw [hp]; rfl, hb⟩
    · have ha := HP2.out a hy
      rw [hy] at HPs
      have HPs2 : Hid (∀ w', Calls Tryd.prog 8 #[.string ⟨A.toArray⟩] w' fun e w'' => e = .returned (.tuple #[.int .u32 a, .int .i64 0]) ∧ ∃ n, w'' = w'.drewN n) := HPs.out
      have HKk := Lib.hid (fun w' => HK.out a n w' ha)
      have hp : pparseL l = if chk a (n : Int) = 0 then some (a, n) else none := by rw [HR.out, hx]; simp only; rw [hy]
      clear hx hy HR HN2 HP2 HPs HK
      have HE := Lib.hid hp
      clear hp
      go_enter Tryd.func12, Tryd.ntmps12
      go_wp2_with fail
      refine (HCt.out _).mono ?_; rintro e w1 ⟨rfl, q1, rfl⟩
      have K1 := Lib.hid ((blk_new w (.int .u32 0) (.int .i64 0)).drewN q1)
      generalize (w.alloc (.cells #[.int .u32 0, .int .i64 0] 29)).drewN q1 = W1 at *
      go_wp2_with fail
      refine (HNm.out _).mono ?_; rintro e w1 ⟨rfl, hw⟩; rw [hw]; clear hw w1
      go_wp2_with fail
      refine (HPs2.out _).mono ?_; rintro e w1 ⟨rfl, q2, rfl⟩
      have K1b := Lib.hid (K1.out.drewN q2)
      generalize W1.drewN q2 = W1b at *
      go_wp2_with fail
      refine (HKk.out _).mono ?_; rintro e w3 ⟨rfl, hb3⟩
      have K3 := Lib.hid ((K1b.out.keep ((Below.refl _ _).alloc (Nat.le_refl _) _)).keep hb3)
      have q0 : w3.cell? ⟨W1b.heap.size, 0, none⟩ = some (.int .u32 (a : Int)) := (hb3.cell (p := ⟨W1b.heap.size, 0, none⟩) (by simp)).trans (by simp [go_sem])
      have q1 : w3.cell? ⟨W1b.heap.size, 1, none⟩ = some (.int .i64 (n : Int)) := (hb3.cell (p := ⟨W1b.heap.size, 1, none⟩) (by simp)).trans (by simp [go_sem])
      obtain ⟨p0, p1, f0, f1, _⟩ := K3.out
      by_cases hc : chk a (n : Int) = 0
      · have hp : pparseL l = some (a, n) := by rw [HE.out, if_pos hc]
        rw [hc]
        clear HE hc HKk
        go_wp2
        have K4 := K3.out.put (.int .u32 (a : Int)) (.int .i64 (n : Int))
        generalize ((w3.setCell ⟨w.heap.size, 0, none⟩ (.int .u32 (a : Int))).setCell ⟨w.heap.size, 1, none⟩ (.int .i64 (n : Int))) = W4 at *
        clear p0 p1 f0 f1
        obtain ⟨p0, p1, _, _, hb⟩ := K4
        exact bodyPost_ret (v := .tuple #[.agg #[.int .u32 (a : Int), .int .i64 (n : Int)], .int .i64 0]) (by simp [results, Tryd.results12, go_sem, p0, p1]) rfl ⟨by rw [hp]; rfl, hb⟩
      · have hp : pparseL l = none := by rw [HE.out, if_neg hc]
        have hz : (chk a (n : Int) == 0) = false := by simpa using hc
        clear HE hc HKk
        generalize chk a (n : Int) = C at *
        go_wp2
        have K4 := K3.out.put (.int .u32 0) (.int .i64 0)
        generalize ((w3.setCell ⟨w.heap.size, 0, none⟩ (.int .u32 0)).setCell ⟨w.heap.size, 1, none⟩ (.int .i64 0)) = W4 at *
        clear p0 p1 f0 f1
        obtain ⟨p0, p1, _, _, hb⟩ := K4
        exact bodyPost_ret (v := .tuple #[.agg #[.int .u32 0, .int .i64 0], .int .i64 4]) (by simp [results, Tryd.results12, go_sem, p0, p1]) rfl ⟨by rw [hp]; rfl, hb⟩
end Go.Proofs.YthdmbggpokaggaaDoor
