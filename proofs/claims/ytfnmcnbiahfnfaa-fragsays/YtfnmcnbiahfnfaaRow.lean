/-
  Lists of packets in memory; contract of pieces (package frag).
-/
import Derived.Test.YtfnmcnbiahfnfaaPce
import Derived.Deep.AppendLies
import Derived.Laws.OwnMore
namespace Go.Proofs.Ytfnmcnbiahfnfaa
open Go.RowKit
set_option linter.unusedVariables false
set_option linter.unusedSimpArgs false

/-- The cells of a list of packets. -/
def pcells : List Pk → List Value
  | [] => []
  | p :: r => pcl p ++ pcells r
theorem pcells_append (l m : List Pk) : pcells (l ++ m) = pcells l ++ pcells m := by
  induction l with
  | nil => rfl
  | cons x l ih => simp [pcells, ih]
theorem pcells_length (l : List Pk) : (pcells l).length = l.length * 9 := by
  induction l with
  | nil => rfl
  | cons x l ih => simp [pcells, ih]; omega
theorem pcl_one (p : Pk) : ∀ v ∈ pcl p, v.oneCell' = true := by
  intro v hv
  simp only [List.mem_cons, List.not_mem_nil, or_false] at hv
  rcases hv with rfl | rfl | rfl | rfl | rfl | rfl | rfl | rfl | rfl <;> rfl
theorem pcells_one (l : List Pk) : ∀ v ∈ pcells l, v.oneCell' = true := by
  induction l with
  | nil => intro c hc; cases hc
  | cons x l ih =>
    intro c hc
    simp only [pcells, List.mem_append] at hc
    rcases hc with hc | hc
    · exact pcl_one x c hc
    · exact ih c hc
theorem pcells_get : ∀ (L : List Pk) (i : Nat) (p : Pk), L[i]? = some p → ∀ j v, (pcl p)[j]? = some v → (pcells L)[i * 9 + j]? = some v
  | [], i, p, h => by simp at h
  | x :: L, 0, p, h => by
    intro j v hv
    simp at h; subst h
    have hj : j < 9 := (List.getElem?_eq_some_iff.1 hv).1
    rw [Nat.zero_mul, Nat.zero_add, pcells, List.getElem?_append_left (by exact hj)]; exact hv
  | x :: L, i + 1, p, h => by
    intro j v hv
    have := pcells_get L i p (by simpa using h) j v hv
    rw [pcells, List.getElem?_append_right (by simp; omega), show (i + 1) * 9 + j - (pcl x).length = i * 9 + j from by simp; omega]
    exact this

/-- A list of packets that nobody else has, in blocks from B on. -/
def PRow (W : World) (B : Nat) (v : Value) (L : List Pk) : Prop := W.ownsRow B 24 9 v L.length (pcells L)
theorem own_below {w w' : World} {B e size n : Nat} {v : Value} {xs : List Value} (h : w.ownsRow B e size v n xs) (hb : Below w.heap.size w w') : w'.ownsRow B e size v n xs :=
  h.kept (row := none) ⟨hb.os, hb.tape, hb.output, hb.size, fun k hk _ => hb.block k hk⟩ (by cases h : v.ownBlock <;> simp)
theorem PRow.on {W W' : World} {B : Nat} {v : Value} {L : List Pk} (h : PRow W B v L) (hb : Below W.heap.size W W') : PRow W' B v L := own_below h hb
theorem own_base {w : World} {B B' e size n : Nat} {v : Value} {xs : List Value} (h : w.ownsRow B e size v n xs) (hB : B' ≤ B) : w.ownsRow B' e size v n xs := by
  refine ⟨h.1, ?_⟩
  rcases h.2 with h1 | ⟨g, cap, cur, h1, h2, h3⟩
  · exact .inl h1
  · exact .inr ⟨g, cap, cur, h1, Nat.le_trans hB h2, h3⟩
theorem PRow.nil (W : World) (B : Nat) : PRow W B (.slice none 0 0) [] := World.ownsRow_nil W B 24 9
theorem PRow.form {W : World} {B : Nat} {v : Value} {L : List Pk} (h : PRow W B v L) : ∃ (o : Option Addr) (g cap : Nat), v = .slice o L.length cap ∧ (0 < L.length → o = some ⟨g, 0, none⟩ ∧ B ≤ g ∧ g < W.heap.size) := by
  rcases Nat.eq_zero_or_pos L.length with h0 | h0
  · have h' := h
    rcases h.2 with ⟨rfl, _⟩ | ⟨g, cap, cur, rfl, _⟩
    · exact ⟨none, 0, 0, by rw [h0], by omega⟩
    · exact ⟨_, g, cap, rfl, by omega⟩
  · obtain ⟨g, cap, rfl, h1, h2⟩ := World.ownsRow.form h h0
    exact ⟨_, g, cap, rfl, fun _ => ⟨rfl, h1, h2⟩⟩
theorem PRow.range {W : World} {B g n cap : Nat} {L : List Pk} (h : PRow W B (.slice (some ⟨g, 0, none⟩) n cap) L) {i : Nat} {p : Pk} (hi : L[i]? = some p) : W.rangeAt g (i * 9) (pcl p) := fun j v hv => by
  have := World.ownsRow.cells h (g := g) rfl (i * 9 + j) v (pcells_get L i p hi j v hv)
  rwa [Addr.add_mid, Nat.zero_add] at this
theorem info24z : (Try.prog.info? 24).map (fun i => (i.zero, i.size, i.bytes)) = some (some (.agg pzc), 9, 64) := by kernel_rfl

/-- How many pieces of size bytes there are of so many. -/
def cnt (len size : Nat) : Nat := (len + size - 1) / size
theorem lt_cnt {len size k : Nat} (hs : 0 < size) : k < cnt len size ↔ k * size < len := by
  unfold cnt
  rw [Nat.lt_iff_add_one_le, Nat.le_div_iff_mul_le hs, Nat.add_mul]
  omega
theorem cnt_le (len size : Nat) (hs : 0 < size) : cnt len size ≤ len := by
  unfold cnt
  rcases Nat.eq_zero_or_pos len with h | h
  · subst h; rw [Nat.div_eq_of_lt (by omega)]; omega
  · have : len + size - 1 ≤ len * size := by
      obtain ⟨l, rfl⟩ : ∃ l, len = l + 1 := ⟨len - 1, by omega⟩
      rw [Nat.add_mul]
      have := Nat.le_mul_of_pos_right l hs
      omega
    exact Nat.div_le_of_le_mul (by rw [Nat.mul_comm]; exact this)
/-- The k-th piece. -/
def pk (p : Pk) (size k : Nat) : Pk := pce p (k * size) (min (k * size + size) p.body.size)
/-- All of them. -/
def pks (p : Pk) (size n : Nat) : List Pk := (List.range n).map (pk p size)
theorem pks_length (p : Pk) (size n : Nat) : (pks p size n).length = n := by simp [pks]
theorem pks_succ (p : Pk) (size n : Nat) : pks p size (n + 1) = pks p size n ++ [pk p size n] := by simp [pks, List.range_succ]

set_option maxHeartbeats 2000000 in
theorem pieces_any (p : Pk) (size : Nat) (w : World) (h1 : 0 < size) (h2 : size ≤ 1400) (hs : p.body.size ≤ 4000) :
    Calls Try.prog 24 #[pv p, .int .i64 (size : Int)] w fun e w' => ∃ v, e = .returned v ∧ PRow w' w.heap.size v (pks p size (cnt p.body.size size)) ∧ Below w.heap.size w w' := by
  obtain ⟨i0, hi0, hz0, hz1, hz2⟩ := info_parts info24z
  have P0 := Lib.hid (PB.new w p)
  have b0 : Below w.heap.size w (w.alloc (.cells (pc p) 24)) := (Below.refl _ _).alloc (Nat.le_refl _) _
  have HU := Lib.hid Try.underlying24
  have HI : Hid ((Try.prog.info? 24).map (·.size) = some 9) := info24
  have HL := cnt_le p.body.size size h1
  have HT : ∀ k, k < cnt p.body.size size ↔ k * size < p.body.size := fun k => lt_cnt h1
  have HP : Hid (∀ (k : Nat) (w' : World), k * size < p.body.size → ∀ a b : Int, a = ((k * size : Nat) : Int) → b = ((min (k * size + size) p.body.size : Nat) : Int) → Calls Try.prog 23 #[pv p, .int .i64 a, .int .i64 b] w' fun e w'' => e = .returned (pv (pk p size k)) ∧ Below w'.heap.size w' w'') := fun k w' hk a b ha hb => by
    subst ha hb
    exact piece_any p (k * size) (min (k * size + size) p.body.size) w' (by omega) (by omega) (by omega)
  generalize cnt p.body.size size = n at *
  go_enter Try.func24, Try.ntmps24
  go_wp2_with fail
  go_loopw [5, 6] (fun v i W => ∃ k : Nat, k ≤ n ∧ i = .int .i64 ((k * size : Nat) : Int) ∧ PRow W (w.heap.size + 1) v (pks p size k) ∧ PB w.heap.size p W ∧ Below w.heap.size w W) (fun _ i _ => (8000 - (intOf i)).toNat)
  case atStart => exact ⟨0, Nat.zero_le _, by simp, PRow.nil _ _, P0.out, b0⟩
  case round =>
    obtain ⟨k, hk, rfl, hR, hP, hb⟩ := hrel
    have x8 := hP.c8
    by_cases hlt : k < n
    · have hlt' := (HT k).1 hlt
      generalize hm : k * size = m at *
      have HM := Lib.hid hm
      clear hm
      have HS : Hid ((k + 1) * size = m + size) := by show _ = _; rw [Nat.add_mul, HM.out]; omega
      have hmi : (m : Int) < (p.body.size : Int) := by omega
      have HP' : Hid (∀ (w' : World) (a b : Int), a = (m : Int) → b = ((min (m + size) p.body.size : Nat) : Int) → Calls Try.prog 23 #[pv p, .int .i64 a, .int .i64 b] w' fun e w'' => e = .returned (pv (pk p size k)) ∧ Below w'.heap.size w' w'') := fun w' a b ha hb => HP.out k w' (by rw [HM.out]; exact hlt') a b (by rw [HM.out]; exact ha) (by rw [HM.out]; exact hb)
      have P := Lib.hid hP
      have R := Lib.hid hR
      have hsz := hb.size
      have HQ : Hid (pks p size (k + 1) = pks p size k ++ [pk p size k]) := pks_succ p size k
      have hln : (pks p size k).length = k := pks_length _ _ _
      generalize pk p size k = q at *
      generalize pks p size k = acc at *
      clear hP hR HP
      go_wp2_with (refine wpList_load_mid rfl _ _ rfl _ _ rfl (pcl p) _ P.out.range HU.out rfl HI.out ?_)
      all_goals
        refine (HP'.out _ _ _ (by first | rfl | omega) (by omega)).mono ?_; rintro e w1 ⟨rfl, hb1⟩
        have P1 := Lib.hid (P.out.keep hb1)
        have R1 := Lib.hid (R.out.on hb1)
        have b1 := hb.trans (hb1.mono hsz)
        have g1 := b1.size
        have g2 := P1.out.lt
        have olt := World.ownsRow.lt R1.out
        go_wp2_with (at_builtin; refine wpList_append_lies _ rfl _ _ _ rfl (w.heap.size + 1) 24 i0 _ 9 64 Try.underlying25 hi0 hz0 hz1 hz2 rfl (by omega) u5 acc.length (pcells acc) rfl (World.ownsRow.alloc R1.out _) ⟨w1.heap.size, 0, none⟩ 1 1 (pcl q) rfl rfl (World.news_of_block (cs := pc q) (t := 24) (fr := (0, 0)) (heap_alloc_new w1 _)) (pcl_one q) (by omega) (by unfold maxLen; omega) (by omega) (by simp; omega) (w1.heap.size + 1) (by simp) ?_; intro g cap w2 own2 hgrow hat hglt)
        have hb2 : Below w.heap.size w w2 := (b1.alloc g1 _).grown hgrow (by simp; omega) (fun j hj => by have := olt j hj; omega)
        have hP2 : PB w.heap.size p w2 := (hgrow.block w.heap.size (by simp; omega) (fun hh => by have := olt _ hh.symm; omega)).trans (P1.out.alloc _)
        have hR2 : PRow w2 (w.heap.size + 1) (.slice (some ⟨g, 0, none⟩) (acc.length + 1) cap) (acc ++ [q]) := by
          show w2.ownsRow _ _ _ _ (acc ++ [q]).length (pcells (acc ++ [q]))
          rw [pcells_append, List.length_append]
          simpa [pcells] using own2
        go_roundw
        case rel => exact ⟨k + 1, by omega, by rw [HS.out]; go_num, by rw [HQ.out, ← hln]; exact hR2, hP2, hb2⟩
        case measure => simp [intOf]; omega
    · have hge : ¬ (k * size < p.body.size) := fun hc => hlt ((HT k).2 hc)
      obtain rfl : k = n := by omega
      generalize k * size = m at *
      have hmi : ¬ ((m : Int) < (p.body.size : Int)) := by omega
      go_wp2_with fail
      go_ret
      refine ⟨_, rfl, ?_, hb⟩
      have hl := World.ownsRow.lt hR
      exact own_base hR (by omega)
end Go.Proofs.Ytfnmcnbiahfnfaa
