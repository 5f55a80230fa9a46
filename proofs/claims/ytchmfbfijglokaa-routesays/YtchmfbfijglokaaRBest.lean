/-
  RouteBest, walked: the way that is told is that of a prefix that has the address, and of the longest one.
-/
import Derived.Test.YtchmfbfijglokaaREmpty
namespace Go.Proofs.Ytchmfbfijglokaa
open Go.RowKit
set_option linter.unusedVariables false

/-- The most bits of those that have x. -/
def bestOf (x : Nat) (L : List Ent) : Int := L.foldl (fun m e => if inP e.a e.b x = true then max m (e.b : Int) else m) (-1)
/-- How often a prefix is there. -/
def cntK (a b : Nat) (L : List Ent) : Nat := (L.filter (isK a b)).length
theorem bestOf_snoc (x : Nat) (L : List Ent) (e : Ent) : bestOf x (L ++ [e]) = if inP e.a e.b x = true then max (bestOf x L) (e.b : Int) else bestOf x L := by unfold bestOf; rw [List.foldl_append]; rfl
theorem cntK_snoc (a b : Nat) (L : List Ent) (e : Ent) : cntK a b (L ++ [e]) = cntK a b L + if isK a b e = true then 1 else 0 := by
  unfold cntK; rw [List.filter_append, List.length_append]
  cases h : isK a b e <;> simp [h]
theorem cntK_le (a b : Nat) (L : List Ent) : cntK a b L ≤ L.length := List.length_filter_le _ _
theorem snoc_ind {P : List Ent → Prop} (h0 : P []) (h1 : ∀ L e, P L → P (L ++ [e])) (L : List Ent) : P L := by
  have : ∀ n (L : List Ent), L.length = n → P L := by
    intro n
    induction n with
    | zero => intro L h; rw [List.eq_nil_of_length_eq_zero h]; exact h0
    | succ n ih =>
      intro L h
      have hne : L ≠ [] := by intro e; rw [e] at h; simp at h
      rw [← List.dropLast_concat_getLast hne]
      exact h1 _ _ (ih _ (by rw [List.length_dropLast]; omega))
  exact this _ L rfl
theorem bestOf_bounds (x : Nat) (L : List Ent) (h : ∀ e ∈ L, e.b ≤ 32) : -1 ≤ bestOf x L ∧ bestOf x L ≤ 32 := by
  revert h
  refine snoc_ind (P := fun L => (∀ e ∈ L, e.b ≤ 32) → -1 ≤ bestOf x L ∧ bestOf x L ≤ 32) ?_ ?_ L
  · intro _; simp [bestOf]
  · intro L e ih h
    have := ih fun y hy => h y (by simp [hy])
    have := h e (by simp)
    rw [bestOf_snoc]
    split <;> omega
theorem bestOf_none (x : Nat) (L : List Ent) (h : ∀ e ∈ L, inP e.a e.b x = false) : bestOf x L = -1 := by
  revert h
  refine snoc_ind (P := fun L => (∀ e ∈ L, inP e.a e.b x = false) → bestOf x L = -1) ?_ ?_ L
  · intro _; rfl
  · intro L e ih h
    rw [bestOf_snoc, h e (by simp), ih fun y hy => h y (by simp [hy])]; simp
theorem bestOf_le (x : Nat) (B : Int) (L : List Ent) (h : ∀ e ∈ L, inP e.a e.b x = true → (e.b : Int) ≤ B) (hB : -1 ≤ B) : bestOf x L ≤ B := by
  revert h
  refine snoc_ind (P := fun L => (∀ e ∈ L, inP e.a e.b x = true → (e.b : Int) ≤ B) → bestOf x L ≤ B) ?_ ?_ L
  · intro _; exact hB
  · intro L e ih h
    have := ih fun y hy => h y (by simp [hy])
    rw [bestOf_snoc]
    split
    · have := h e (by simp) (by assumption); omega
    · exact this
theorem bestOf_ge (x : Nat) (L : List Ent) (e : Ent) (he : e ∈ L) (hx : inP e.a e.b x = true) : (e.b : Int) ≤ bestOf x L := by
  revert he
  refine snoc_ind (P := fun L => e ∈ L → (e.b : Int) ≤ bestOf x L) ?_ ?_ L
  · intro h; cases h
  · intro L y ih h
    rw [bestOf_snoc]
    rw [List.mem_append, List.mem_singleton] at h
    rcases h with h | rfl
    · have := ih h
      split <;> omega
    · rw [if_pos hx]; omega
theorem len_split (L : List Ent) (p : Ent → Bool) : L.length = (L.filter p).length + (L.filter fun x => !p x).length := by
  induction L with
  | nil => rfl
  | cons x L ih => cases h : p x <;> simp [h] <;> omega
theorem best_found {L : List Ent} {x : Nat} {e : Ent} (hg : Good L) (h : findF x none L = some e) : bestOf x L = e.b ∧ cntK e.a e.b L = 1 := by
  obtain ⟨h1, h2, h3⟩ := find_some hg h
  refine ⟨Int.le_antisymm (bestOf_le x e.b L (fun f hf hfx => ?_) (by omega)) (bestOf_ge x L e h1 h2), ?_⟩
  · rcases h3 f hf hfx with rfl | h4
    · exact Int.le_refl _
    · omega
  · have := delE_length hg.sorted (hasE_mem h1)
    unfold delE at this
    unfold cntK
    have h5 := len_split L (isK e.a e.b)
    omega
theorem take_next {L : List Ent} {k : Nat} {e : Ent} (h : L[k]? = some e) : L.take (k + 1) = L.take k ++ [e] := by
  obtain ⟨hk, rfl⟩ := List.getElem?_eq_some_iff.1 h
  exact List.take_succ_eq_append_getElem hk

set_option maxHeartbeats 4000000 in
set_option maxRecDepth 100000 in
theorem best_walk (o : Option Addr) (b off len cap : Nat) (C : Nat → List Value) (S : Nat → Stp) (x : Nat) (w : World) (hb : 0 < len → o = some ⟨b, off, none⟩ ∧ b < w.heap.size) (hS : StepsAt w b off len C S) (hlen : len ≤ maxLen) (hx : x < 4294967296) :
    Calls Try.prog 4 #[.slice o len cap, .int .u32 x] w fun e w' => e = .returned (.bool true) ∧ Below w.heap.size w w' := by
  have HR := Lib.hid (routes_at cap hb hS hlen)
  clear hb hS hlen
  go_enter Try.func4, Try.ntmps4
  go_wp2_with fail
  refine (HR.out _ (Below.refl _ _)).mono ?_; rintro e w1 ⟨tb, bs, L, rfl, hT1, h01, hbs⟩
  have T1 := Lib.hid hT1
  have G := Lib.hid hT1.good
  have HF := Lib.hid (find_any tb x bs L w1 hx hT1)
  generalize hR : findF x none L = R at HF
  have HQ := Lib.hid hR
  have hpa : fA R ≤ 4294967295 := by
    cases R with
    | none => simp [fA]
    | some e => have := (G.out.range e (find_some G.out hR).1).1; simp [fA]; omega
  clear hT1 hR
  generalize hA : fA R = A at *
  generalize hB : fB R = Bq at *
  generalize hV : fV R = V at *
  generalize hI : R.isSome = I at *
  have HA := Lib.hid hA
  have HB := Lib.hid hB
  have HI := Lib.hid hI
  clear hA hB hV hI
  go_wp2_with fail
  refine HF.out.mono ?_; rintro e w2 ⟨rfl, h12⟩
  have hba : Below w1.heap.size w1 (w2.alloc (.cells #[.int .u32 (A : Int), .int .i64 (Bq : Int)] 34)) := h12.alloc h12.size _
  have T2 := Lib.hid (T1.out.on hba)
  go_wp2_with fail
  refine (tall_full _ _ _ _ T2.out).mono ?_; rintro e w3 ⟨lo, g, lc, rfl, hL3, hg3, h23⟩
  have bp := box_keep h23
  have h13 := hba.trans (h23.mono hba.size)
  have h03 := h01.trans (h13.mono h01.size)
  have L3 := Lib.hid hL3
  have L64 := G.out.many
  have BP := Lib.hid bp
  clear hL3 bp
  generalize hN : L.length = n at *
  have HN := Lib.hid hN
  clear hN
  go_wp2_with fail
  go_loopw [27, 9, 10] (fun i m c W => ∃ (k : Nat), k ≤ n ∧ i = .int .i64 k ∧ m = .int .i64 (bestOf x (L.take k)) ∧ c = .int .i64 (cntK A Bq (L.take k) : Nat) ∧ Below w3.heap.size w3 W) (fun i _ _ _ => n - (intOf i).toNat)
  case atStart => exact ⟨0, Nat.zero_le _, rfl, rfl, rfl, Below.refl _ _⟩
  case round =>
    obtain ⟨k, hk, rfl, rfl, rfl, hbel⟩ := hrel
    have LW : Hid (ListAt wr lo g L) := L3.out.keep hbel.size fun h => hbel.block g h
    have bpl := lt_of_block BP.out
    obtain ⟨p0, p1, _, _⟩ := two_cells ((hbel.block _ bpl).trans BP.out)
    have hz := hbel.size
    have hzp : w2.heap.size < wr.heap.size := by omega
    by_cases hlt : k < n
    · obtain ⟨ho, hgl, hc⟩ := LW.out (by rw [HN.out]; omega)
      subst ho
      obtain ⟨e, he⟩ : ∃ e, L[k]? = some e := ⟨L[k]'(by rw [HN.out]; exact hlt), List.getElem?_eq_getElem _⟩
      obtain ⟨c0, c1⟩ := hc k e he
      have hem : e ∈ L := List.mem_of_getElem? he
      have her := G.out.range e hem
      have HH : Hid (∀ w', Calls Try.prog 21 #[.agg #[.int .u32 (e.a : Int), .int .i64 (e.b : Int)], .int .u32 x] w' fun r w'' => r = .returned (.bool (inP e.a e.b x)) ∧ Below w'.heap.size w' w'') := fun w' => by
        have := has_any e.a x e.b w' her.1 hx
        rwa [has_inP her.2 (G.out.align e hem)] at this
      have HS1 : Hid (bestOf x (L.take (k + 1)) = if inP e.a e.b x = true then max (bestOf x (L.take k)) (e.b : Int) else bestOf x (L.take k)) := by show _ = _; rw [take_next he, bestOf_snoc]
      have HS2 : Hid (cntK A Bq (L.take (k + 1)) = cntK A Bq (L.take k) + if isK A Bq e = true then 1 else 0) := by show _ = _; rw [take_next he, cntK_snoc]
      have hbb := bestOf_bounds x (L.take k) fun y hy => (G.out.range y (List.mem_of_mem_take hy)).2
      have hcc := cntK_le A Bq (L.take k)
      have hll : (L.take k).length ≤ k := List.length_take_le _ _
      generalize bestOf x (L.take k) = M at *
      generalize cntK A Bq (L.take k) = c at *
      clear hc he hem
      cases hi : inP e.a e.b x with
      | true =>
        rw [hi] at HH
        have HS1 : Hid (bestOf x (L.take (k + 1)) = max M (e.b : Int)) := by
          have := HS1.out
          rwa [hi, if_pos rfl] at this
        clear hi
        by_cases hm : M < (e.b : Int)
        · rcases (show (A = e.a ∧ Bq = e.b) ∨ (A = e.a ∧ Bq ≠ e.b) ∨ A ≠ e.a by omega) with hk | hk | hk
          · obtain ⟨rfl, rfl⟩ := hk
            have HK : Hid (isK e.a e.b e = true) := (isK_iff _ _ _).2 ⟨rfl, rfl⟩
            go_wp2_with fail
            refine (HH.out _).mono ?_; rintro r w4 ⟨rfl, hb4⟩
            obtain ⟨q0, q1, _, _⟩ := two_cells (box_keep hb4)
            have h34 : Below wr.heap.size wr w4 := ((Below.refl _ _).alloc (Nat.le_refl _) _).trans (hb4.mono (by simp))
            obtain ⟨s0, s1, _, _⟩ := two_cells (((hbel.trans (h34.mono hz)).block _ bpl).trans BP.out)
            go_wp2_with fail
            go_roundw
            case rel => exact ⟨k + 1, by omega, by go_num, by rw [HS1.out]; exact congrArg (Value.int .i64) (by omega), by rw [HS2.out, HK.out]; simp, hbel.trans (h34.mono hz)⟩
            case measure => simp [intOf]; omega
          · obtain ⟨rfl, hk2⟩ := hk
            have HK : Hid (isK e.a Bq e = false) := (isK_false _ _ _).2 (fun h => hk2 h.2.symm)
            have hk3 : ¬ ((Bq : Int) = (e.b : Int)) := by omega
            go_wp2_with fail
            refine (HH.out _).mono ?_; rintro r w4 ⟨rfl, hb4⟩
            obtain ⟨q0, q1, _, _⟩ := two_cells (box_keep hb4)
            have h34 : Below wr.heap.size wr w4 := ((Below.refl _ _).alloc (Nat.le_refl _) _).trans (hb4.mono (by simp))
            obtain ⟨s0, s1, _, _⟩ := two_cells (((hbel.trans (h34.mono hz)).block _ bpl).trans BP.out)
            go_wp2_with fail
            go_roundw
            case rel => exact ⟨k + 1, by omega, by go_num, by rw [HS1.out]; exact congrArg (Value.int .i64) (by omega), by rw [HS2.out, HK.out]; simp, hbel.trans (h34.mono hz)⟩
            case measure => simp [intOf]; omega
          · have HK : Hid (isK A Bq e = false) := (isK_false _ _ _).2 (fun h => hk h.1.symm)
            have hk3 : ¬ ((A : Int) = (e.a : Int)) := by omega
            go_wp2_with fail
            refine (HH.out _).mono ?_; rintro r w4 ⟨rfl, hb4⟩
            obtain ⟨q0, q1, _, _⟩ := two_cells (box_keep hb4)
            have h34 : Below wr.heap.size wr w4 := ((Below.refl _ _).alloc (Nat.le_refl _) _).trans (hb4.mono (by simp))
            obtain ⟨s0, s1, _, _⟩ := two_cells (((hbel.trans (h34.mono hz)).block _ bpl).trans BP.out)
            go_wp2_with fail
            go_roundw
            case rel => exact ⟨k + 1, by omega, by go_num, by rw [HS1.out]; exact congrArg (Value.int .i64) (by omega), by rw [HS2.out, HK.out]; simp, hbel.trans (h34.mono hz)⟩
            case measure => simp [intOf]; omega
        · rcases (show (A = e.a ∧ Bq = e.b) ∨ (A = e.a ∧ Bq ≠ e.b) ∨ A ≠ e.a by omega) with hk | hk | hk
          · obtain ⟨rfl, rfl⟩ := hk
            have HK : Hid (isK e.a e.b e = true) := (isK_iff _ _ _).2 ⟨rfl, rfl⟩
            go_wp2_with fail
            refine (HH.out _).mono ?_; rintro r w4 ⟨rfl, hb4⟩
            obtain ⟨q0, q1, _, _⟩ := two_cells (box_keep hb4)
            have h34 : Below wr.heap.size wr w4 := ((Below.refl _ _).alloc (Nat.le_refl _) _).trans (hb4.mono (by simp))
            obtain ⟨s0, s1, _, _⟩ := two_cells (((hbel.trans (h34.mono hz)).block _ bpl).trans BP.out)
            go_wp2_with fail
            go_roundw
            case rel => exact ⟨k + 1, by omega, by go_num, by rw [HS1.out]; exact congrArg (Value.int .i64) (by omega), by rw [HS2.out, HK.out]; simp, hbel.trans (h34.mono hz)⟩
            case measure => simp [intOf]; omega
          · obtain ⟨rfl, hk2⟩ := hk
            have HK : Hid (isK e.a Bq e = false) := (isK_false _ _ _).2 (fun h => hk2 h.2.symm)
            have hk3 : ¬ ((Bq : Int) = (e.b : Int)) := by omega
            go_wp2_with fail
            refine (HH.out _).mono ?_; rintro r w4 ⟨rfl, hb4⟩
            obtain ⟨q0, q1, _, _⟩ := two_cells (box_keep hb4)
            have h34 : Below wr.heap.size wr w4 := ((Below.refl _ _).alloc (Nat.le_refl _) _).trans (hb4.mono (by simp))
            obtain ⟨s0, s1, _, _⟩ := two_cells (((hbel.trans (h34.mono hz)).block _ bpl).trans BP.out)
            go_wp2_with fail
            go_roundw
            case rel => exact ⟨k + 1, by omega, by go_num, by rw [HS1.out]; exact congrArg (Value.int .i64) (by omega), by rw [HS2.out, HK.out]; simp, hbel.trans (h34.mono hz)⟩
            case measure => simp [intOf]; omega
          · have HK : Hid (isK A Bq e = false) := (isK_false _ _ _).2 (fun h => hk h.1.symm)
            have hk3 : ¬ ((A : Int) = (e.a : Int)) := by omega
            go_wp2_with fail
            refine (HH.out _).mono ?_; rintro r w4 ⟨rfl, hb4⟩
            obtain ⟨q0, q1, _, _⟩ := two_cells (box_keep hb4)
            have h34 : Below wr.heap.size wr w4 := ((Below.refl _ _).alloc (Nat.le_refl _) _).trans (hb4.mono (by simp))
            obtain ⟨s0, s1, _, _⟩ := two_cells (((hbel.trans (h34.mono hz)).block _ bpl).trans BP.out)
            go_wp2_with fail
            go_roundw
            case rel => exact ⟨k + 1, by omega, by go_num, by rw [HS1.out]; exact congrArg (Value.int .i64) (by omega), by rw [HS2.out, HK.out]; simp, hbel.trans (h34.mono hz)⟩
            case measure => simp [intOf]; omega
      | false =>
        rw [hi] at HH
        have HS1 : Hid (bestOf x (L.take (k + 1)) = M) := by
          have := HS1.out
          rwa [hi, if_neg (by simp)] at this
        clear hi
        rcases (show (A = e.a ∧ Bq = e.b) ∨ (A = e.a ∧ Bq ≠ e.b) ∨ A ≠ e.a by omega) with hk | hk | hk
        · obtain ⟨rfl, rfl⟩ := hk
          have HK : Hid (isK e.a e.b e = true) := (isK_iff _ _ _).2 ⟨rfl, rfl⟩
          go_wp2_with fail
          refine (HH.out _).mono ?_; rintro r w4 ⟨rfl, hb4⟩
          obtain ⟨q0, q1, _, _⟩ := two_cells (box_keep hb4)
          have h34 : Below wr.heap.size wr w4 := ((Below.refl _ _).alloc (Nat.le_refl _) _).trans (hb4.mono (by simp))
          obtain ⟨s0, s1, _, _⟩ := two_cells (((hbel.trans (h34.mono hz)).block _ bpl).trans BP.out)
          go_wp2_with fail
          go_roundw
          case rel => exact ⟨k + 1, by omega, by go_num, by rw [HS1.out], by rw [HS2.out, HK.out]; simp, hbel.trans (h34.mono hz)⟩
          case measure => simp [intOf]; omega
        · obtain ⟨rfl, hk2⟩ := hk
          have HK : Hid (isK e.a Bq e = false) := (isK_false _ _ _).2 (fun h => hk2 h.2.symm)
          have hk3 : ¬ ((Bq : Int) = (e.b : Int)) := by omega
          go_wp2_with fail
          refine (HH.out _).mono ?_; rintro r w4 ⟨rfl, hb4⟩
          obtain ⟨q0, q1, _, _⟩ := two_cells (box_keep hb4)
          have h34 : Below wr.heap.size wr w4 := ((Below.refl _ _).alloc (Nat.le_refl _) _).trans (hb4.mono (by simp))
          obtain ⟨s0, s1, _, _⟩ := two_cells (((hbel.trans (h34.mono hz)).block _ bpl).trans BP.out)
          go_wp2_with fail
          go_roundw
          case rel => exact ⟨k + 1, by omega, by go_num, by rw [HS1.out], by rw [HS2.out, HK.out]; simp, hbel.trans (h34.mono hz)⟩
          case measure => simp [intOf]; omega
        · have HK : Hid (isK A Bq e = false) := (isK_false _ _ _).2 (fun h => hk h.1.symm)
          have hk3 : ¬ ((A : Int) = (e.a : Int)) := by omega
          go_wp2_with fail
          refine (HH.out _).mono ?_; rintro r w4 ⟨rfl, hb4⟩
          obtain ⟨q0, q1, _, _⟩ := two_cells (box_keep hb4)
          have h34 : Below wr.heap.size wr w4 := ((Below.refl _ _).alloc (Nat.le_refl _) _).trans (hb4.mono (by simp))
          obtain ⟨s0, s1, _, _⟩ := two_cells (((hbel.trans (h34.mono hz)).block _ bpl).trans BP.out)
          go_wp2_with fail
          go_roundw
          case rel => exact ⟨k + 1, by omega, by go_num, by rw [HS1.out], by rw [HS2.out, HK.out]; simp, hbel.trans (h34.mono hz)⟩
          case measure => simp [intOf]; omega
    · obtain rfl : k = n := by omega
      have htk : L.take k = L := List.take_of_length_le (by rw [HN.out]; exact Nat.le_refl _)
      rw [htk]
      cases R with
      | none =>
        obtain rfl : 0 = A := HA.out
        obtain rfl : 0 = Bq := HB.out
        obtain rfl : false = I := HI.out
        have hbn := bestOf_none x L (find_none G.out HQ.out)
        rw [hbn]
        generalize cntK 0 0 L = c
        clear htk hbn
        go_wp2_with fail
        go_ret
        exact ⟨rfl, h03.trans (hbel.mono h03.size)⟩
      | some p =>
        obtain rfl : p.a = A := HA.out
        obtain rfl : p.b = Bq := HB.out
        obtain rfl : true = I := HI.out
        obtain ⟨f1, f2⟩ := best_found G.out HQ.out
        obtain ⟨g1, g2, _⟩ := find_some G.out HQ.out
        rw [f1, f2]
        have HH : Hid (∀ w', Calls Try.prog 21 #[.agg #[.int .u32 (p.a : Int), .int .i64 (p.b : Int)], .int .u32 x] w' fun r w'' => r = .returned (.bool true) ∧ Below w'.heap.size w' w'') := fun w' => by
          have := has_any p.a x p.b w' (G.out.range p g1).1 hx
          rwa [has_inP (G.out.range p g1).2 (G.out.align p g1), g2] at this
        clear htk f1 f2 g1 g2
        go_wp2_with fail
        refine (HH.out _).mono ?_; rintro r w4 ⟨rfl, hb4⟩
        obtain ⟨s0, s1, _, _⟩ := two_cells (((hbel.trans (hb4.mono hz)).block _ bpl).trans BP.out)
        go_wp2_with fail
        go_ret
        have h0r := h03.trans (hbel.mono h03.size)
        exact ⟨rfl, h0r.trans (hb4.mono h0r.size)⟩
end Go.Proofs.Ytchmfbfijglokaa
