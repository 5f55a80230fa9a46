/-
  Contracts of a node's walk with All's function, and of All (package route).
-/
import Derived.Test.YtchmfbfijglokaaTbl
import Derived.Deep.AppendLies
namespace Go.Proofs.Ytchmfbfijglokaa
open Go.RowKit
set_option linter.unusedVariables false

theorem idx0 (p q : Option Addr) (w : World) : (Instr.index 71 (.agg #[.pointer p, .pointer q]) (.int .i64 0)).run Try.prog w = .ok (.pointer p) w := rfl
theorem idx1 (p q : Option Addr) (w : World) : (Instr.index 71 (.agg #[.pointer p, .pointer q]) (.int .i64 1)).run Try.prog w = .ok (.pointer q) w := rfl

/-- The cells of a list of prefixes. -/
def ecells : List Ent → List Value
  | [] => []
  | x :: r => .int .u32 (x.a : Int) :: .int .i64 (x.b : Int) :: ecells r
theorem ecells_append (l m : List Ent) : ecells (l ++ m) = ecells l ++ ecells m := by
  induction l with
  | nil => rfl
  | cons x l ih => simp [ecells, ih]
theorem ecells_length (l : List Ent) : (ecells l).length = l.length * 2 := by
  induction l with
  | nil => rfl
  | cons x l ih => simp [ecells, ih]; omega
theorem own_below {w w' : World} {B e size n : Nat} {v : Value} {xs : List Value} (h : w.ownsRow B e size v n xs) (hb : Below w.heap.size w w') : w'.ownsRow B e size v n xs :=
  h.kept (row := none) ⟨hb.os, hb.tape, hb.output, hb.size, fun k hk _ => hb.block k hk⟩ (by cases h : v.ownBlock <;> simp)
theorem info34 : (Try.prog.info? 34).map (fun i => (i.zero, i.size, i.bytes)) = some (some (.agg #[.int .u32 0, .int .i64 0]), 2, 16) := by kernel_rfl

/-- All's list lies in the variable at block B: so many prefixes so far. -/
structure AllSt (B : Nat) (v : Value) (acc : List Ent) (W : World) : Prop where
  var : W.heap[B]? = some (.cells #[v] 50 (0, 0))
  own : W.ownsRow (B + 1) 34 2 v acc.length (ecells acc)
theorem AllSt.lt {B : Nat} {v : Value} {acc : List Ent} {W : World} (h : AllSt B v acc W) : B < W.heap.size := lt_of_block h.var
theorem AllSt.on {B : Nat} {v : Value} {acc : List Ent} {w w' : World} (h : AllSt B v acc w) (hb : Below w.heap.size w w') : AllSt B v acc w' := ⟨(hb.block B h.lt).trans h.var, own_below h.own hb⟩
/-- The variable and the list's own block alone have turned. -/
structure Gr (B : Nat) (v : Value) (w : World) (v' : Value) (w' : World) : Prop where
  kept : Kp (B :: v.ownBlock.toList) w w'
  sub : ∀ k, v'.ownBlock = some k → v.ownBlock = some k ∨ w.heap.size ≤ k
theorem Gr.ofBelow {B : Nat} {v : Value} {w w' : World} (h : Below w.heap.size w w') : Gr B v w v w' := ⟨Kp.ofBelow h, fun k hk => Or.inl hk⟩
theorem Gr.trans {B : Nat} {v v1 v2 : Value} {w w1 w2 : World} (h : Gr B v w v1 w1) (k : Gr B v1 w1 v2 w2) : Gr B v w v2 w2 := by
  refine ⟨h.kept.trans k.kept fun x hx => ?_, fun j hj => ?_⟩
  · rcases List.mem_cons.1 hx with rfl | hx
    · left; simp
    · have hx' : v1.ownBlock = some x := by simpa using hx
      rcases h.sub x hx' with h1 | h1
      · left; simp [h1]
      · exact Or.inr h1
  · rcases k.sub j hj with h1 | h1
    · exact h.sub j h1
    · exact Or.inr (Nat.le_trans h.kept.size h1)
theorem Gr.block {B : Nat} {v v' : Value} {w w' : World} (h : Gr B v w v' w') {k : Nat} (hk : k < w.heap.size) (hB : k ≠ B) (hv : v.ownBlock ≠ some k) : w'.heap[k]? = w.heap[k]? :=
  h.kept.block k hk (by simp [hB, hv])

set_option maxHeartbeats 2000000 in
theorem all1_any (B pa pb k : Nat) (lp rp : Value) (th : Bool) (v : Int) (u : Value) (acc : List Ent) (w : World) (hS : AllSt B u acc w) (hk : w.heap[k]? = some (.cells #[lp, rp, .bool th, .int .i64 v] 73 (0, 0))) (hkB : k < B) (hn : acc.length + (if th = true then 1 else 0) ≤ 64) :
    Calls Try.prog 31 #[.agg #[.int .u32 pa, .int .i64 pb], .pointer (some ⟨k, 0, none⟩), .pointer (some ⟨B, 0, none⟩)] w fun e w' => e = .returned (.bool true) ∧ ∃ u', AllSt B u' (acc ++ if th = true then [⟨pa, pb, v⟩] else []) w' ∧ Gr B u w u' w' := by
  have hlt := hS.lt
  have hkl : k < w.heap.size := by omega
  obtain ⟨_, _, c2, _⟩ := node_cells hk
  clear hk
  cases th with
  | false =>
    have S := Lib.hid hS
    go_enter Try.func31, Try.ntmps31
    go_wp2_with fail
    go_ret
    have hb : Below w.heap.size w (w.alloc (.cells #[.int .u32 (pa : Int), .int .i64 (pb : Int)] 34)) := (Below.refl _ _).alloc (Nat.le_refl _) _
    exact ⟨rfl, u, by simpa using S.out.on hb, Gr.ofBelow hb⟩
  | true =>
    obtain ⟨i0, hi0, hz0, hz1, hz2⟩ := info_parts info34
    obtain ⟨hu, hown⟩ := hS
    have cu := cell_of_one hu
    have fu := free_of_one hu
    have olt := hown.lt
    have hn' : acc.length ≤ 63 := by simpa using hn
    have HU := Lib.hid hu
    have CF : Hid (∀ w2, ((w.alloc (.cells #[.int .u32 (pa : Int), .int .i64 (pb : Int)] 34)).alloc (.cells #[.int .u32 (pa : Int), .int .i64 (pb : Int)] 34)).grownBy w2 u.ownBlock → w2.heap[B]? = some (.cells #[u] 50 (0, 0))) := fun w2 hg => by
      rw [hg.block B (by simp; omega) (fun hh => by have := olt _ hh.symm; omega), Below.heap_alloc _ _ _ (by simp; omega), Below.heap_alloc _ _ _ hlt]
      exact hu
    clear hn hu
    go_enter Try.func31, Try.ntmps31
    go_wp2_with (at_builtin; refine wpList_append_lies _ rfl _ _ _ rfl (B + 1) 34 i0 _ 2 16 Try.underlying50 hi0 hz0 hz1 hz2 rfl (by omega) u acc.length (ecells acc) rfl ((hown.alloc _).alloc _) ⟨w.heap.size + 1, 0, none⟩ 1 1 [.int .u32 (pa : Int), .int .i64 (pb : Int)] rfl rfl (World.news_of_block (cs := #[.int .u32 (pa : Int), .int .i64 (pb : Int)]) (t := 34) (fr := (0, 0)) (by simpa using heap_alloc_new (w.alloc (.cells #[.int .u32 (pa : Int), .int .i64 (pb : Int)] 34)) (.cells #[.int .u32 (pa : Int), .int .i64 (pb : Int)] 34))) (by simp [Value.oneCell']) (by omega) (by unfold maxLen; omega) (by omega) (by simp; omega) (w.heap.size + 2) (by simp) ?_; intro g cap w2 own2 hgrow hat hglt; have u2 := Lib.hid (CF.out w2 hgrow); have cu2 := cell_of_one u2.out; have fu2 := free_of_one u2.out)
    go_ret
    refine ⟨rfl, .slice (some ⟨g, 0, none⟩) (acc.length + 1) cap, ⟨one_setCell u2.out, ?_⟩, ?_, ?_⟩
    · have := ownsRow_setCell_below own2 (a := ⟨B, 0, none⟩) (by show B < B + 1; omega) (.slice (some ⟨g, 0, none⟩) (acc.length + 1) cap)
      rw [ecells_append, List.length_append]
      exact this
    · have hb : Below w.heap.size w ((w.alloc (.cells #[.int .u32 (pa : Int), .int .i64 (pb : Int)] 34)).alloc (.cells #[.int .u32 (pa : Int), .int .i64 (pb : Int)] 34)) := ((Below.refl _ _).alloc (Nat.le_refl _) _).alloc (by simp) _
      refine ((Kp.ofBelow hb).trans (cs := u.ownBlock.toList) ⟨hgrow.os, hgrow.tape, hgrow.output, hgrow.size, fun k hk hm => hgrow.block k hk fun e => hm (by simp [← e])⟩ fun x hx => Or.inl (by simp [hx])).setCell (Or.inl (by simp)) _
    · intro k hk
      have hg : g = k := by simpa [Value.ownBlock] using hk
      subst hg
      rcases hat with h1 | h1
      · exact Or.inl h1
      · right; omega

theorem AllSt.own_ne {B : Nat} {u : Value} {acc : List Ent} {w : World} (h : AllSt B u acc w) {k : Nat} (hk : k < B) : u.ownBlock ≠ some k := fun e => by have := h.own.lt k e; omega
theorem Gr.tin {B : Nat} {u u' : Value} {acc : List Ent} {w w' : World} {t : LT} (hin : Tin w t) (hB : ∀ k ∈ blocks t, k < B) (hS : AllSt B u acc w) (hg : Gr B u w u' w') : Tin w' t :=
  hin.keep fun k hk => hg.block (hin.lt k hk) (by have := hB k hk; omega) (hS.own_ne (hB k hk))

set_option maxHeartbeats 2000000 in
/-- The walk gathers what is below a node, in its order. -/
theorem walkAll_any (B : Nat) (t : LT) : ∀ (a b : Nat) (u : Value) (acc : List Ent) (w : World), Tin w t → (∀ k ∈ blocks t, k < B) → fits t b → b ≤ 33 → a < 4294967296 → a % 2 ^ (32 - b) = 0 → a + 2 ^ (32 - b) ≤ 4294967296 → AllSt B u acc w → acc.length + (toL t a b).length ≤ 64 →
    Calls Try.prog 30 #[(ptrOf t), .agg #[.int .u32 a, .int .i64 b], .func (.func 31) #[] #[.pointer (some ⟨B, 0, none⟩)]] w fun e w' => e = .returned (.tuple #[]) ∧ ∃ u', AllSt B u' (acc ++ toL t a b) w' ∧ Gr B u w u' w' := by
  induction t with
  | nil =>
    intro a b u acc w hin hB hf hb ha hm hs hS hn
    show Calls Try.prog 30 #[.pointer none, .agg #[.int .u32 a, .int .i64 b], .func (.func 31) #[] #[.pointer (some ⟨B, 0, none⟩)]] w _
    have S := Lib.hid hS
    go_enter Try.func30, Try.ntmps30
    go_wp2_with fail
    refine bodyPost_ret (results_none rfl _ _ _) rfl ?_
    have hb : Below w.heap.size w (w.alloc (.cells #[.int .u32 (a : Int), .int .i64 (b : Int)] 34)) := (Below.refl _ _).alloc (Nat.le_refl _) _
    exact ⟨rfl, u, by simpa [toL] using S.out.on hb, Gr.ofBelow hb⟩
  | node k o0 x0 l r ihl ihr =>
    obtain ⟨th, v⟩ := x0
    intro a b u acc w hin hB hf hb ha hm hs hS hn
    obtain ⟨h32, hfl, hfr⟩ := hf
    obtain ⟨pl, hpl⟩ := ptr_form l
    obtain ⟨pr, hpr⟩ := ptr_form r
    have hroot := hin.1
    rw [hpl, hpr] at hroot
    have hkB : k < B := hB k (by simp [blocks])
    have hkl := lt_of_block hroot
    have hBl := hS.lt
    have e1 : 32 - (b + 1) = 31 - b := by omega
    have hbx : Below w.heap.size w (w.alloc (.cells #[.int .u32 (a : Int), .int .i64 (b : Int)] 34)) := (Below.refl _ _).alloc (Nat.le_refl _) _
    have S0 : Hid (AllSt B u acc (w.alloc (.cells #[.int .u32 (a : Int), .int .i64 (b : Int)] 34))) := hS.on hbx
    have hlen : acc.length + ((if th = true then 1 else 0) + ((toL l a (b + 1)).length + (toL r (a + 2 ^ (31 - b)) (b + 1)).length)) ≤ 64 := by
      rw [toL, List.length_append, List.length_append] at hn
      cases th <;> simpa using hn
    -- what is gathered behind the node itself, behind the left, behind the right
    generalize hP0 : acc ++ (if th = true then [(⟨a, b, v⟩ : Ent)] else []) = P0
    have hP0l : P0.length = acc.length + (if th = true then 1 else 0) := by rw [← hP0]; cases th <;> simp
    generalize hP1 : P0 ++ toL l a (b + 1) = P1
    have hP1l : P1.length = P0.length + (toL l a (b + 1)).length := by rw [← hP1]; simp
    generalize hP2 : P1 ++ toL r (a + 2 ^ (31 - b)) (b + 1) = P2
    have HE : Hid (acc ++ toL (.node k o0 (th, v) l r) a b = P2) := by
      show _ = _
      rw [← hP2, ← hP1, ← hP0, toL]; simp
    have HV : Hid (Calls Try.prog 31 #[.agg #[.int .u32 a, .int .i64 b], .pointer (some ⟨k, 0, none⟩), .pointer (some ⟨B, 0, none⟩)] (w.alloc (.cells #[.int .u32 (a : Int), .int .i64 (b : Int)] 34)) fun e w' => e = .returned (.bool true) ∧ ∃ u', AllSt B u' P0 w' ∧ Gr B u (w.alloc (.cells #[.int .u32 (a : Int), .int .i64 (b : Int)] 34)) u' w') := by
      have := all1_any B a b k (.pointer pl) (.pointer pr) th v u acc (w.alloc (.cells #[.int .u32 (a : Int), .int .i64 (b : Int)] 34)) S0.out ((hbx.block k hkl).trans hroot) hkB (by omega)
      rwa [hP0] at this
    have RT : Hid (∀ u' w', Gr B u (w.alloc (.cells #[.int .u32 (a : Int), .int .i64 (b : Int)] 34)) u' w' → w'.heap[k]? = some (.cells #[.pointer pl, .pointer pr, .bool th, .int .i64 v] 73 (0, 0)) ∧ w'.heap[w.heap.size]? = some (.cells #[.int .u32 (a : Int), .int .i64 (b : Int)] 34 (0, 0))) := by
      intro u' w' hg
      refine ⟨?_, ?_⟩
      · rw [hg.block (by simp; omega) (by omega) (hS.own_ne hkB), hbx.block k hkl]; exact hroot
      · rw [hg.block (by simp) (by omega) (fun e => by have := hS.own.lt _ e; omega)]; exact heap_alloc_new _ _
    have TL0 : Hid (∀ {u'} w', Gr B u (w.alloc (.cells #[.int .u32 (a : Int), .int .i64 (b : Int)] 34)) u' w' → Tin w' l) := fun w' hg => Gr.tin (hin.2.1.below hbx hin.2.1.lt) (fun j hj => hB j (by simp [blocks, hj])) S0.out hg
    have TL1 : Hid (∀ {u'} w', Gr B u (w.alloc (.cells #[.int .u32 (a : Int), .int .i64 (b : Int)] 34)) u' w' → Tin w' r) := fun w' hg => Gr.tin (hin.2.2.below hbx hin.2.2.lt) (fun j hj => hB j (by simp [blocks, hj])) S0.out hg
    have HL : Hid (b ≤ 31 → ∀ u' w', AllSt B u' P0 w' → Tin w' l → Calls Try.prog 30 #[.pointer pl, .agg #[.int .u32 a, .int .i64 ((b : Int) + 1)], .func (.func 31) #[] #[.pointer (some ⟨B, 0, none⟩)]] w' fun e w'' => e = .returned (.tuple #[]) ∧ ∃ u'', AllSt B u'' P1 w'' ∧ Gr B u' w' u'' w'') := by
      intro h31 u' w' h1 h2
      have hh := two_half b h31
      have := ihl a (b + 1) u' P0 w' h2 (fun j hj => hB j (by simp [blocks, hj])) hfl (by omega) ha (by rw [e1]; exact (mod_half h31 hm).1) (by rw [e1]; omega) h1 (by omega)
      rwa [hpl, hP1, show ((b + 1 : Nat) : Int) = (b : Int) + 1 from by omega] at this
    have HLN : Hid (l = .nil → P1 = P0) := by rintro rfl; rw [← hP1]; simp [toL]
    have HLB : Hid (l ≠ .nil → b ≤ 31) := by
      intro hx
      cases l with
      | nil => exact absurd rfl hx
      | node => have := hfl.1; omega
    have HRB : Hid (r ≠ .nil → b ≤ 31) := by
      intro hx
      cases r with
      | nil => exact absurd rfl hx
      | node => have := hfr.1; omega
    have HRN : Hid (r = .nil → P2 = P1) := by rintro rfl; rw [← hP2]; simp [toL]
    have G0 : Hid (b ≤ 31 → ∀ w', Calls Try.prog 37 #[.agg #[.int .u32 a, .int .i64 b], .int .i64 0] w' fun e w'' => e = .returned (.agg #[.int .u32 a, .int .i64 ((b : Int) + 1)]) ∧ Below w'.heap.size w' w'') := by
      intro h31 w'
      have := longer_any a b 0 w' ha h31 (by omega) hm hs
      rwa [Nat.zero_mul, Nat.add_zero, show ((b + 1 : Nat) : Int) = (b : Int) + 1 from by omega] at this
    have G1 : Hid (b ≤ 31 → ∀ w', Calls Try.prog 37 #[.agg #[.int .u32 a, .int .i64 b], .int .i64 1] w' fun e w'' => e = .returned (.agg #[.int .u32 ((a + 2 ^ (31 - b) : Nat) : Int), .int .i64 ((b : Int) + 1)]) ∧ Below w'.heap.size w' w'') := by
      intro h31 w'
      have := longer_any a b 1 w' ha h31 (by omega) hm hs
      rwa [Nat.one_mul, show ((b + 1 : Nat) : Int) = (b : Int) + 1 from by omega] at this
    have HR : Hid (b ≤ 31 → ∀ u' w', AllSt B u' P1 w' → Tin w' r → Calls Try.prog 30 #[.pointer pr, .agg #[.int .u32 ((a + 2 ^ (31 - b) : Nat) : Int), .int .i64 ((b : Int) + 1)], .func (.func 31) #[] #[.pointer (some ⟨B, 0, none⟩)]] w' fun e w'' => e = .returned (.tuple #[]) ∧ ∃ u'', AllSt B u'' P2 w'' ∧ Gr B u' w' u'' w'') := by
      intro h31 u' w' h1 h2
      have hh := two_half b h31
      have hpp := Nat.two_pow_pos (31 - b)
      have := ihr (a + 2 ^ (31 - b)) (b + 1) u' P1 w' h2 (fun j hj => hB j (by simp [blocks, hj])) hfr (by omega) (by omega) (by rw [e1]; exact (mod_half h31 hm).2) (by rw [e1]; omega) h1 (by omega)
      rwa [hpr, hP2, show ((b + 1 : Nat) : Int) = (b : Int) + 1 from by omega] at this
    have hpl := Lib.hid hpl
    have hpr := Lib.hid hpr
    generalize a + 2 ^ (31 - b) = a2 at *
    clear ihl ihr hn hlen hP0l hP1l hP0 hP1 hP2 hroot hin hB hfl hfr hm hs e1 hS
    show Calls Try.prog 30 #[.pointer (some ⟨k, 0, none⟩), .agg #[.int .u32 a, .int .i64 b], .func (.func 31) #[] #[.pointer (some ⟨B, 0, none⟩)]] w _
    go_enter Try.func30, Try.ntmps30
    go_wp2_with fail
    refine HV.out.mono ?_; rintro e w1 ⟨rfl, u0, hS0, hg0⟩
    have HS0 := Lib.hid hS0
    obtain ⟨r0, rb⟩ := RT.out u0 w1 hg0
    obtain ⟨c0, c1, c2, c3⟩ := node_cells r0
    clear r0 rb hS0
    go_wp2_with fail
    go_loopw [21] (fun i W => ∃ (j : Nat) (u' : Value), j ≤ 2 ∧ i = .int .i64 j ∧ AllSt B u' (if j = 0 then P0 else if j = 1 then P1 else P2) W ∧ Gr B u (w.alloc (.cells #[.int .u32 (a : Int), .int .i64 (b : Int)] 34)) u' W) (fun i _ => 2 - (intOf i).toNat)
    case atStart => exact ⟨0, u0, by omega, rfl, HS0.out, hg0⟩
    case round =>
      obtain ⟨j, u1, hj, rfl, hS1, hg1⟩ := hrel
      obtain ⟨r0, rb⟩ := RT.out u1 wr hg1
      obtain ⟨c0, c1, c2, c3⟩ := node_cells r0
      obtain ⟨b0, b1, _, _⟩ := two_cells rb
      have S1 := Lib.hid hS1
      clear r0 rb hS1
      have ix0 := idx0
      have ix1 := idx1
      rcases (show j = 0 ∨ j = 1 ∨ j = 2 by omega) with rfl | rfl | rfl
      · cases pl with
        | none =>
          have hx : l = .nil := ptr_none hpl.out
          have hS' : AllSt B u1 P1 wr := by
            have := HLN.out hx
            rw [this]; exact S1.out
          have HS' := Lib.hid hS'
          clear hS' hx
          go_wp2_with fail
          go_roundw
          case rel => exact ⟨1, u1, by omega, rfl, (by show AllSt B u1 P1 _; exact HS'.out), hg1⟩
          case measure => simp [intOf]
        | some ad =>
          have hb31 : b ≤ 31 := HLB.out (by intro hx; rw [hx] at hpl; exact absurd hpl.out (by simp [ptrOf]))
          go_wp2_with fail
          refine (G0.out hb31 _).mono ?_; rintro e w2 ⟨rfl, hb2⟩
          go_wp2_with fail
          refine (HL.out hb31 _ _ (S1.out.on hb2) (TL0.out _ (hg1.trans (Gr.ofBelow hb2)))).mono ?_; rintro e w3 ⟨rfl, u3, hS3, hg3⟩
          have HS3 := Lib.hid hS3
          clear hS3
          go_wp2_with fail
          go_roundw
          case rel => exact ⟨1, u3, by omega, rfl, HS3.out, (hg1.trans (Gr.ofBelow hb2)).trans hg3⟩
          case measure => simp [intOf]
      · cases pr with
        | none =>
          have hx : r = .nil := ptr_none hpr.out
          have hS' : AllSt B u1 P2 wr := by
            have := HRN.out hx
            rw [this]; exact S1.out
          have HS' := Lib.hid hS'
          clear hS' hx
          go_wp2_with fail
          go_roundw
          case rel => exact ⟨2, u1, by omega, rfl, (by show AllSt B u1 P2 _; exact HS'.out), hg1⟩
          case measure => simp [intOf]
        | some ad =>
          have hb31 : b ≤ 31 := HRB.out (by intro hx; rw [hx] at hpr; exact absurd hpr.out (by simp [ptrOf]))
          go_wp2_with fail
          refine (G1.out hb31 _).mono ?_; rintro e w2 ⟨rfl, hb2⟩
          go_wp2_with fail
          refine (HR.out hb31 _ _ (S1.out.on hb2) (TL1.out _ (hg1.trans (Gr.ofBelow hb2)))).mono ?_; rintro e w3 ⟨rfl, u3, hS3, hg3⟩
          have HS3 := Lib.hid hS3
          clear hS3
          go_wp2_with fail
          go_roundw
          case rel => exact ⟨2, u3, by omega, rfl, HS3.out, (hg1.trans (Gr.ofBelow hb2)).trans hg3⟩
          case measure => simp [intOf]
      · go_wp2_with fail
        go_end0
        exact ⟨rfl, u1, by rw [HE.out]; exact S1.out, (Gr.ofBelow hbx).trans hg1⟩

theorem own_base {w : World} {B B' e size n : Nat} {v : Value} {xs : List Value} (h : w.ownsRow B e size v n xs) (hB : B' ≤ B) : w.ownsRow B' e size v n xs := by
  obtain ⟨h1, h2 | ⟨g, cap, cur, hv, hg, hr⟩⟩ := h
  · exact ⟨h1, Or.inl h2⟩
  · exact ⟨h1, Or.inr ⟨g, cap, cur, hv, Nat.le_trans hB hg, hr⟩⟩

set_option maxHeartbeats 2000000 in
/-- All prefixes, in their order. -/
theorem tall_any (tb : Nat) (bs : List Nat) (L : List Ent) (w : World) (h : Tbl w tb bs L) :
    Calls Try.prog 16 #[.pointer (some ⟨tb, 0, none⟩)] w fun e w' => ∃ v, e = .returned v ∧ w'.ownsRow w.heap.size 34 2 v L.length (ecells L) ∧ Below w.heap.size w w' := by
  have hmf : ∀ (fn : Fn) (first cap : Array Value) (w : World), (Instr.makeFunc fn first cap).run Try.prog w = .ok (.func fn first cap) w := fun _ _ _ _ => rfl
  have hbs := h.lt
  have hg := h.good
  obtain ⟨t, rfl, hroot, hin, hnd, hf, hL, hlen⟩ := h
  obtain ⟨p0, hp0⟩ := ptr_form t
  rw [hp0] at hroot
  have htl := lt_of_block hroot
  obtain ⟨t0, t1, t2, t3⟩ := two_cells hroot
  have hb0 : Below w.heap.size w (w.alloc (.cells #[.slice none 0 0] 50)) := (Below.refl _ _).alloc (Nat.le_refl _) _
  have HW : Hid (Calls Try.prog 30 #[.pointer p0, .agg #[.int .u32 0, .int .i64 0], .func (.func 31) #[] #[.pointer (some ⟨w.heap.size, 0, none⟩)]] (w.alloc (.cells #[.slice none 0 0] 50)) fun e w' => e = .returned (.tuple #[]) ∧ ∃ u', w'.cell? ⟨w.heap.size, 0, none⟩ = some u' ∧ Hid (w'.ownsRow w.heap.size 34 2 u' L.length (ecells L) ∧ Below w.heap.size w w')) := by
    have := walkAll_any w.heap.size t 0 0 (.slice none 0 0) [] (w.alloc (.cells #[.slice none 0 0] 50)) (hin.below hb0 hin.lt) hin.lt hf (by omega) (by omega) (by simp) (by simp) ⟨heap_alloc_new _ _, World.ownsRow_nil _ _ _ _⟩ (by rw [hL]; simpa using hlen)
    rw [hp0, hL] at this
    refine Calls.mono this ?_
    rintro e w' ⟨rfl, u', hS, hG⟩
    refine ⟨rfl, u', cell_of_one hS.var, own_base hS.own (by omega), ?_⟩
    have := hG.kept.below (B := w.heap.size) (by simp) (by simp [Value.ownBlock])
    exact hb0.trans this
  clear hroot hp0 hL hin hnd hf hg
  go_enter Try.func16, Try.ntmps16
  go_wp2_with fail
  refine HW.out.mono ?_; rintro e w1 ⟨rfl, u', hc, G⟩
  go_wp2_with fail
  go_ret
  exact ⟨u', rfl, G.out.1, G.out.2⟩
end Go.Proofs.Ytchmfbfijglokaa
