/-
  RouteAll, walked: where a prefix goes, what it had is found by a shorter one, or not at all; where all addresses have a way every one is found.
-/
import Derived.Test.YtchmfbfijglokaaApart
import Derived.Test.YtchmfbfijglokaaListsB
namespace Go.Proofs.Ytchmfbfijglokaa
open Go.RowKit
set_option linter.unusedVariables false

theorem find_yes (tb x : Nat) (bs : List Nat) (L : List Ent) (e : Ent) (w : World) (hx : x < 4294967296) (h : Tbl w tb bs L) (he : findF x none L = some e) :
    Calls Try.prog 18 #[.pointer (some ⟨tb, 0, none⟩), .int .u32 x] w fun r w' => r = .returned (.tuple #[.int .i64 e.v, .agg #[.int .u32 (e.a : Int), .int .i64 (e.b : Int)], .bool true]) ∧ Below w.heap.size w w' := by
  have := find_any tb x bs L w hx h
  rw [he] at this; exact this
theorem find_no (tb x : Nat) (bs : List Nat) (L : List Ent) (w : World) (hx : x < 4294967296) (h : Tbl w tb bs L) (he : findF x none L = none) :
    Calls Try.prog 18 #[.pointer (some ⟨tb, 0, none⟩), .int .u32 x] w fun r w' => r = .returned (.tuple #[.int .i64 0, .agg #[.int .u32 0, .int .i64 0], .bool false]) ∧ Below w.heap.size w w' := by
  have := find_any tb x bs L w hx h
  rw [he] at this; exact this
theorem drop_yes (tb : Nat) (bs : List Nat) (L : List Ent) (e : Ent) (w : World) (h : Tbl w tb bs L) (he : e ∈ L) :
    Calls Try.prog 13 #[.pointer (some ⟨tb, 0, none⟩), .agg #[.int .u32 (e.a : Int), .int .i64 (e.b : Int)]] w fun r w' => r = .returned (.int .i64 0) ∧ ∃ bs', Tbl w' tb bs' (delE e.a e.b L) ∧ Kp bs w w' ∧ ∀ k ∈ bs', k ∈ bs ∨ w.heap.size ≤ k := by
  have := drop_any tb bs L e.a e.b w (h.good.range e he).1 h
  rwa [(drop_there h.good he).1, (drop_there h.good he).2] at this
/-- The empty prefix is dropped. -/
theorem drop_all (tb : Nat) (bs : List Nat) (L : List Ent) (w : World) (h : Tbl w tb bs L) :
    Calls Try.prog 13 #[.pointer (some ⟨tb, 0, none⟩), .agg #[.int .u32 0, .int .i64 0]] w fun r w' => ∃ c : Int, r = .returned (.int .i64 c) ∧ ∃ (bs' : List Nat) (M : List Ent), Tbl w' tb bs' M ∧ hasE 0 0 M = false ∧ Kp bs w w' ∧ ∀ k ∈ bs', k ∈ bs ∨ w.heap.size ≤ k := by
  refine Calls.mono (drop_any tb bs L 0 0 w (by omega) h) ?_
  rintro e w' ⟨rfl, bs', h1, h2, h3⟩
  refine ⟨_, rfl, bs', _, h1, ?_, h2, h3⟩
  unfold dropL
  split
  · exact hasE_delE
  · rename_i hc
    unfold dropC at hc
    rw [chk_all] at hc
    cases hh : hasE 0 0 L with
    | false => rfl
    | true => exact absurd (by simp [hh]) hc
/-- The empty prefix is added where it lacks: the table is full .. -/
theorem add_full (tb : Nat) (bs : List Nat) (L : List Ent) (v : Int) (w : World) (hn : hasE 0 0 L = false) (h64 : L.length = 64) (h : Tbl w tb bs L) :
    Calls Try.prog 10 #[.pointer (some ⟨tb, 0, none⟩), .agg #[.int .u32 0, .int .i64 0], .int .i64 v] w fun r w' => r = .returned (.int .i64 9) ∧ ∃ bs', Tbl w' tb bs' L ∧ Kp bs w w' ∧ ∀ k ∈ bs', k ∈ bs ∨ w.heap.size ≤ k := by
  have := add_any tb bs L 0 0 v w (by omega) h
  have e1 : addC L 0 0 = 9 := by unfold addC; rw [chk_all]; simp [hn, h64]
  have e2 : addL L 0 0 v = L := by unfold addL; rw [e1]; simp
  rwa [e1, e2] at this
/-- .. or it isn't. -/
theorem add_more (tb : Nat) (bs : List Nat) (L : List Ent) (v : Int) (w : World) (hn : hasE 0 0 L = false) (h64 : ¬ L.length = 64) (h : Tbl w tb bs L) :
    Calls Try.prog 10 #[.pointer (some ⟨tb, 0, none⟩), .agg #[.int .u32 0, .int .i64 0], .int .i64 v] w fun r w' => r = .returned (.int .i64 0) ∧ ∃ bs', Tbl w' tb bs' (insE ⟨0, 0, v⟩ L) ∧ Kp bs w w' ∧ ∀ k ∈ bs', k ∈ bs ∨ w.heap.size ≤ k := by
  have := add_any tb bs L 0 0 v w (by omega) h
  have e1 : addC L 0 0 = 0 := by unfold addC; rw [chk_all]; simp [hn, h64]
  have e2 : addL L 0 0 v = insE ⟨0, 0, v⟩ L := by unfold addL; rw [e1, if_pos rfl]; rfl
  rwa [e1, e2] at this

/-- How many prefixes All tells. -/
theorem tall_len (tb : Nat) (bs : List Nat) (L : List Ent) (n : Nat) (w : World) (hn : L.length = n) (h : Tbl w tb bs L) :
    Calls Try.prog 16 #[.pointer (some ⟨tb, 0, none⟩)] w fun e w' => ∃ (o : Option Addr) (cap : Nat), e = .returned (.slice o n cap) ∧ Below w.heap.size w w' := by
  refine Calls.mono (tall_any tb bs L w h) ?_
  rintro e w' ⟨v, rfl, hown, hb⟩
  rcases hown.2 with ⟨rfl, h0⟩ | ⟨g, cap, cur, rfl, _⟩
  · exact ⟨none, 0, by rw [← hn, h0], hb⟩
  · exact ⟨_, cap, by rw [hn], hb⟩
/-- Where an entry has the address, one is found. -/
theorem find_there (tb x : Nat) (bs : List Nat) (L : List Ent) (e : Ent) (w : World) (hx : x < 4294967296) (h : Tbl w tb bs L) (he : e ∈ L) (hi : inP e.a e.b x = true) :
    Calls Try.prog 18 #[.pointer (some ⟨tb, 0, none⟩), .int .u32 x] w fun r w' => ∃ v a b : Int, r = .returned (.tuple #[.int .i64 v, .agg #[.int .u32 a, .int .i64 b], .bool true]) ∧ Below w.heap.size w w' := by
  refine Calls.mono (find_any tb x bs L w hx h) ?_
  rintro r w' ⟨rfl, hb⟩
  exact ⟨_, _, _, by rw [find_isSome h.good he hi], hb⟩

set_option maxHeartbeats 4000000 in
set_option maxRecDepth 100000 in
theorem all_walk (o : Option Addr) (b off len cap : Nat) (C : Nat → List Value) (S : Nat → Stp) (x : Nat) (w : World) (hb : 0 < len → o = some ⟨b, off, none⟩ ∧ b < w.heap.size) (hS : StepsAt w b off len C S) (hlen : len ≤ maxLen) (hx : x < 4294967296) :
    Calls Try.prog 6 #[.slice o len cap, .int .u32 x] w fun e w' => e = .returned (.bool true) ∧ Below w.heap.size w w' := by
  have HR := Lib.hid (routes_at cap hb hS hlen)
  clear hb hS hlen
  go_enter Try.func6, Try.ntmps6
  go_wp2_with fail
  refine (HR.out _ (Below.refl _ _)).mono ?_; rintro e w1 ⟨tb, bs, L, rfl, hT1, h01, hbs⟩
  have T1 := Lib.hid hT1
  have hg := Lib.hid hT1.good
  cases hR : findF x none L with
  | none =>
    have HF := Lib.hid (find_no tb x bs L w1 hx hT1 hR)
    clear hT1 hR
    go_wp2_with fail
    refine HF.out.mono ?_; rintro e w2 ⟨rfl, hb2⟩
    have h12 : Below w1.heap.size w1 (w2.alloc (.cells #[.int .u32 0, .int .i64 0] 34)) := hb2.alloc hb2.size _
    have T2 := Lib.hid (T1.out.on h12)
    have h02 := h01.trans (h12.mono h01.size)
    go_wp2_with fail
    refine (drop_all _ _ _ _ T2.out).mono ?_; rintro e wa ⟨c, rfl, bsa, Ma, hTa, hna, hka, hsa⟩
    have ha := h02.trans (hka.below h02.size hbs)
    have hbsa : ∀ k ∈ bsa, w.heap.size ≤ k := fun k hk => by
      rcases hsa k hk with h | h
      · exact hbs k h
      · have := h02.size; omega
    by_cases h64 : Ma.length = 64
    · have HX := Lib.hid (add_full tb bsa Ma 9 wa hna h64 hTa)
      have H64 := Lib.hid h64
      clear h64 hna hTa
      go_wp2_with fail
      refine HX.out.mono ?_; rintro e wb ⟨rfl, bsb, hTb, hkb, _⟩
      have HL := Lib.hid (tall_len tb bsb Ma 64 wb H64.out hTb)
      have hb' := ha.trans (hkb.below ha.size hbsa)
      clear hTb
      go_wp2_with fail
      refine HL.out.mono ?_; rintro e wc ⟨vo, vc, rfl, hbc⟩
      go_wp2_with fail
      go_ret
      exact ⟨rfl, hb'.trans (hbc.mono hb'.size)⟩
    · have HX := Lib.hid (add_more tb bsa Ma 9 wa hna h64 hTa)
      clear h64 hna hTa
      go_wp2_with fail
      refine HX.out.mono ?_; rintro e wb ⟨rfl, bsb, hTb, hkb, _⟩
      have HL := Lib.hid (find_there tb x bsb _ ⟨0, 0, 9⟩ wb hx hTb ((mem_insE _ _ _).2 (Or.inl rfl)) (inP_all x hx))
      have hb' := ha.trans (hkb.below ha.size hbsa)
      clear hTb
      go_wp2_with fail
      refine HL.out.mono ?_; rintro e wc ⟨v9, a9, b9, rfl, hbc⟩
      go_wp2_with fail
      go_ret
      exact ⟨rfl, hb'.trans (hbc.mono hb'.size)⟩
  | some p =>
    have HF := Lib.hid (find_yes tb x bs L p w1 hx hT1 hR)
    obtain ⟨hp1, hp2, hp3⟩ := find_some hT1.good hR
    have HD : Hid (∀ w', Tbl w' tb bs L → Calls Try.prog 13 #[.pointer (some ⟨tb, 0, none⟩), .agg #[.int .u32 (p.a : Int), .int .i64 (p.b : Int)]] w' fun r w'' => r = .returned (.int .i64 0) ∧ ∃ bs', Tbl w'' tb bs' (delE p.a p.b L) ∧ Kp bs w' w'' ∧ ∀ k ∈ bs', k ∈ bs ∨ w'.heap.size ≤ k) := fun w' h => drop_yes tb bs L p w' h hp1
    have HS : Hid (∀ q, findF x none (delE p.a p.b L) = some q → q.b < p.b ∧ has q.a q.b p.a = true ∧ q.a < 4294967296) := fun q hq => by
      obtain ⟨k1, k2⟩ := find_shorter hg.out hR hq
      exact ⟨k1, k2, ((hg.out.del p.a p.b).range q (find_some (hg.out.del p.a p.b) hq).1).1⟩
    have hpr := hg.out.range p hp1
    clear hT1 hR hp3 hp2
    go_wp2_with fail
    refine HF.out.mono ?_; rintro e w2 ⟨rfl, hb2⟩
    have h12 : Below w1.heap.size w1 (w2.alloc (.cells #[.int .u32 (p.a : Int), .int .i64 (p.b : Int)] 34)) := hb2.alloc hb2.size _
    have T2 := Lib.hid (T1.out.on h12)
    have TW := Lib.hid (T1.out.on hb2)
    have h02 := h01.trans (h12.mono h01.size)
    go_wp2_with fail
    refine (HD.out _ T2.out).mono ?_; rintro e w3 ⟨rfl, bs3, hT3, hk3, hs3⟩
    have h03 := h02.trans (hk3.below h02.size hbs)
    have hbs3 : ∀ k ∈ bs3, w.heap.size ≤ k := fun k hk => by
      rcases hs3 k hk with h | h
      · exact hbs k h
      · have := h02.size; omega
    have bp : w3.heap[w2.heap.size]? = some (.cells #[.int .u32 (p.a : Int), .int .i64 (p.b : Int)] 34 (0, 0)) := by
      rw [hk3.block _ (by simp) (fun hm => by have := TW.out.lt _ hm; omega)]; exact heap_alloc_new _ _
    have BP := Lib.hid bp
    cases hR2 : findF x none (delE p.a p.b L) with
    | none =>
      have HF2 := Lib.hid (find_no tb x bs3 _ w3 hx hT3 hR2)
      have T3 := Lib.hid hT3
      clear hT3 hR2 bp
      go_wp2_with fail
      refine HF2.out.mono ?_; rintro e w4 ⟨rfl, hb4⟩
      have h34 : Below w3.heap.size w3 (w4.alloc (.cells #[.int .u32 0, .int .i64 0] 34)) := hb4.alloc hb4.size _
      have T4 := Lib.hid (T3.out.on h34)
      have h04 := h03.trans (h34.mono h03.size)
      go_wp2_with fail
      refine (drop_all _ _ _ _ T4.out).mono ?_; rintro e wa ⟨c, rfl, bsa, Ma, hTa, hna, hka, hsa⟩
      have ha := h04.trans (hka.below h04.size hbs3)
      have hbsa : ∀ k ∈ bsa, w.heap.size ≤ k := fun k hk => by
        rcases hsa k hk with h | h
        · exact hbs3 k h
        · have := h04.size; omega
      by_cases h64 : Ma.length = 64
      · have HX := Lib.hid (add_full tb bsa Ma 9 wa hna h64 hTa)
        have H64 := Lib.hid h64
        clear h64 hna hTa
        go_wp2_with fail
        refine HX.out.mono ?_; rintro e wb ⟨rfl, bsb, hTb, hkb, _⟩
        have HL := Lib.hid (tall_len tb bsb Ma 64 wb H64.out hTb)
        have hb' := ha.trans (hkb.below ha.size hbsa)
        clear hTb
        go_wp2_with fail
        refine HL.out.mono ?_; rintro e wc ⟨vo, vc, rfl, hbc⟩
        go_wp2_with fail
        go_ret
        exact ⟨rfl, hb'.trans (hbc.mono hb'.size)⟩
      · have HX := Lib.hid (add_more tb bsa Ma 9 wa hna h64 hTa)
        clear h64 hna hTa
        go_wp2_with fail
        refine HX.out.mono ?_; rintro e wb ⟨rfl, bsb, hTb, hkb, _⟩
        have HL := Lib.hid (find_there tb x bsb _ ⟨0, 0, 9⟩ wb hx hTb ((mem_insE _ _ _).2 (Or.inl rfl)) (inP_all x hx))
        have hb' := ha.trans (hkb.below ha.size hbsa)
        clear hTb
        go_wp2_with fail
        refine HL.out.mono ?_; rintro e wc ⟨v9, a9, b9, rfl, hbc⟩
        go_wp2_with fail
        go_ret
        exact ⟨rfl, hb'.trans (hbc.mono hb'.size)⟩
    | some q =>
      have HF2 := Lib.hid (find_yes tb x bs3 _ q w3 hx hT3 hR2)
      obtain ⟨s1, s2, s3⟩ := HS.out q hR2
      have HH : Hid (∀ w', Calls Try.prog 21 #[.agg #[.int .u32 (q.a : Int), .int .i64 (q.b : Int)], .int .u32 (p.a : Int)] w' fun e w'' => e = .returned (.bool true) ∧ Below w'.heap.size w' w'') := fun w' => by
        have := has_any q.a p.a q.b w' s3 hpr.1
        rwa [s2] at this
      have T3 := Lib.hid hT3
      have hqp : decide ((p.b : Int) ≤ (q.b : Int)) = false := by simp; omega
      clear hT3 hR2 bp s2 s3
      go_wp2_with fail
      refine HF2.out.mono ?_; rintro e w4 ⟨rfl, hb4⟩
      have hz4 : w2.heap.size < w4.heap.size := by have := lt_of_block BP.out; have := hb4.size; omega
      obtain ⟨p0, p1, _, _⟩ := two_cells ((hb4.block _ (lt_of_block BP.out)).trans BP.out)
      have h34 : Below w3.heap.size w3 (w4.alloc (.cells #[.int .u32 (q.a : Int), .int .i64 (q.b : Int)] 34)) := hb4.alloc hb4.size _
      go_wp2_with fail
      refine (HH.out _).mono ?_; rintro e w5 ⟨rfl, hb5⟩
      have h35 := h34.trans (hb5.mono h34.size)
      have T5 := Lib.hid (T3.out.on h35)
      have h05 := h03.trans (h35.mono h03.size)
      go_wp2_with fail
      refine (drop_all _ _ _ _ T5.out).mono ?_; rintro e wa ⟨c, rfl, bsa, Ma, hTa, hna, hka, hsa⟩
      have ha := h05.trans (hka.below h05.size hbs3)
      have hbsa : ∀ k ∈ bsa, w.heap.size ≤ k := fun k hk => by
        rcases hsa k hk with h | h
        · exact hbs3 k h
        · have := h05.size; omega
      by_cases h64 : Ma.length = 64
      · have HX := Lib.hid (add_full tb bsa Ma 9 wa hna h64 hTa)
        have H64 := Lib.hid h64
        clear h64 hna hTa
        go_wp2_with fail
        refine HX.out.mono ?_; rintro e wb ⟨rfl, bsb, hTb, hkb, _⟩
        have HL := Lib.hid (tall_len tb bsb Ma 64 wb H64.out hTb)
        have hb' := ha.trans (hkb.below ha.size hbsa)
        clear hTb
        go_wp2_with fail
        refine HL.out.mono ?_; rintro e wc ⟨vo, vc, rfl, hbc⟩
        go_wp2_with fail
        go_ret
        exact ⟨rfl, hb'.trans (hbc.mono hb'.size)⟩
      · have HX := Lib.hid (add_more tb bsa Ma 9 wa hna h64 hTa)
        clear h64 hna hTa
        go_wp2_with fail
        refine HX.out.mono ?_; rintro e wb ⟨rfl, bsb, hTb, hkb, _⟩
        have HL := Lib.hid (find_there tb x bsb _ ⟨0, 0, 9⟩ wb hx hTb ((mem_insE _ _ _).2 (Or.inl rfl)) (inP_all x hx))
        have hb' := ha.trans (hkb.below ha.size hbsa)
        clear hTb
        go_wp2_with fail
        refine HL.out.mono ?_; rintro e wc ⟨v9, a9, b9, rfl, hbc⟩
        go_wp2_with fail
        go_ret
        exact ⟨rfl, hb'.trans (hbc.mono hb'.size)⟩
end Go.Proofs.Ytchmfbfijglokaa
