/-
  RouteEmpty, walked: a table whose prefixes are all dropped is as a new one.
-/
import Derived.Test.YtchmfbfijglokaaRAll
namespace Go.Proofs.Ytchmfbfijglokaa
open Go.RowKit
set_option linter.unusedVariables false

theorem ecells_get : ∀ (L : List Ent) (i : Nat) (e : Ent), L[i]? = some e → (ecells L)[i * 2]? = some (.int .u32 (e.a : Int)) ∧ (ecells L)[i * 2 + 1]? = some (.int .i64 (e.b : Int))
  | [], i, e, h => by simp at h
  | x :: L, 0, e, h => by simp at h; subst h; simp [ecells]
  | x :: L, i + 1, e, h => by
    have := ecells_get L i e (by simpa using h)
    rw [show (i + 1) * 2 = i * 2 + 1 + 1 from by omega, show i * 2 + 1 + 1 + 1 = (i * 2 + 1) + 1 + 1 from by omega]
    simpa [ecells] using this
/-- A list of prefixes lies in block g. -/
def ListAt (W : World) (o : Option Addr) (g : Nat) (L : List Ent) : Prop :=
  0 < L.length → o = some ⟨g, 0, none⟩ ∧ g < W.heap.size ∧ ∀ i e, L[i]? = some e → W.cell? ⟨g, i * 2, none⟩ = some (.int .u32 (e.a : Int)) ∧ W.cell? ⟨g, i * 2 + 1, none⟩ = some (.int .i64 (e.b : Int))
theorem ListAt.keep {W W' : World} {o : Option Addr} {g : Nat} {L : List Ent} (h : ListAt W o g L) (hz : W.heap.size ≤ W'.heap.size) (hb : g < W.heap.size → W'.heap[g]? = W.heap[g]?) : ListAt W' o g L := fun hp => by
  obtain ⟨h1, h2, h3⟩ := h hp
  refine ⟨h1, by omega, fun i e he => ?_⟩
  obtain ⟨h4, h5⟩ := h3 i e he
  exact ⟨(World.cell?_of_block (w := W) (a := ⟨g, i * 2, none⟩) (hb h2)).trans h4, (World.cell?_of_block (w := W) (a := ⟨g, i * 2 + 1, none⟩) (hb h2)).trans h5⟩
/-- All, with what it tells. -/
theorem tall_full (tb : Nat) (bs : List Nat) (L : List Ent) (w : World) (h : Tbl w tb bs L) :
    Calls Try.prog 16 #[.pointer (some ⟨tb, 0, none⟩)] w fun e w' => ∃ (o : Option Addr) (g cap : Nat), e = .returned (.slice o L.length cap) ∧ ListAt w' o g L ∧ w.heap.size ≤ g ∧ Below w.heap.size w w' := by
  refine Calls.mono (tall_any tb bs L w h) ?_
  rintro e w' ⟨v, rfl, hown, hb⟩
  have hown' := hown
  rcases hown.2 with ⟨rfl, h0⟩ | ⟨g, cap, cur, rfl, hg, _⟩
  · exact ⟨none, w.heap.size, 0, by rw [h0], fun hp => by omega, Nat.le_refl _, hb⟩
  · refine ⟨_, g, cap, rfl, fun hp => ⟨rfl, (hown'.lt g rfl).2, fun i e he => ?_⟩, hg, hb⟩
    have hi := (List.getElem?_eq_some_iff.1 he).1
    obtain ⟨h1, h2⟩ := ecells_get L i e he
    rw [hown'.cellAt (i * 2) (by omega), hown'.cellAt (i * 2 + 1) (by omega)]
    exact ⟨h1, h2⟩
theorem drop_step {L : List Ent} {k : Nat} {e : Ent} (h : L[k]? = some e) : L.drop k = e :: L.drop (k + 1) := by
  obtain ⟨hk, rfl⟩ := List.getElem?_eq_some_iff.1 h
  exact List.drop_eq_getElem_cons hk
/-- The first entry of what is left is dropped. -/
theorem drop_next (tb : Nat) (bs : List Nat) (L : List Ent) (k : Nat) (e : Ent) (w : World) (he : L[k]? = some e) (h : Tbl w tb bs (L.drop k)) :
    Calls Try.prog 13 #[.pointer (some ⟨tb, 0, none⟩), .agg #[.int .u32 (e.a : Int), .int .i64 (e.b : Int)]] w fun r w' => r = .returned (.int .i64 0) ∧ ∃ bs', Tbl w' tb bs' (L.drop (k + 1)) ∧ Kp bs w w' ∧ ∀ k ∈ bs', k ∈ bs ∨ w.heap.size ≤ k := by
  have hd := drop_step he
  have hg := h.good
  rw [hd] at h hg
  have := drop_yes tb bs _ e w h List.mem_cons_self
  rwa [del_first hg.sorted] at this

set_option maxHeartbeats 4000000 in
set_option maxRecDepth 100000 in
theorem empty_walk (o : Option Addr) (b off len cap : Nat) (C : Nat → List Value) (S : Nat → Stp) (x : Nat) (w : World) (hb : 0 < len → o = some ⟨b, off, none⟩ ∧ b < w.heap.size) (hS : StepsAt w b off len C S) (hlen : len ≤ maxLen) (hx : x < 4294967296) :
    Calls Try.prog 8 #[.slice o len cap, .int .u32 x] w fun e w' => e = .returned (.bool true) ∧ Below w.heap.size w w' := by
  have HR := Lib.hid (routes_at cap hb hS hlen)
  clear hb hS hlen
  go_enter Try.func8, Try.ntmps8
  go_wp2_with fail
  refine (HR.out _ (Below.refl _ _)).mono ?_; rintro e w1 ⟨tb, bs, L, rfl, hT1, h01, hbs⟩
  have T1 := Lib.hid hT1
  have L64 := hT1.good.many
  clear hT1
  go_wp2_with fail
  refine (new_any _).mono ?_; rintro e w2 ⟨rfl, hU2, h12⟩
  have h02 := h01.trans (h12.mono h01.size)
  have U2 := Lib.hid hU2
  have T2 := Lib.hid (T1.out.on h12)
  have hTL := T1.out.lt
  have HTL := Lib.hid hTL
  clear hU2 hTL
  go_wp2_with fail
  refine (tall_full _ _ _ _ T2.out).mono ?_; rintro e w3 ⟨lo, g, lc, rfl, hL3, hg3, h23⟩
  have h03 := h02.trans (h23.mono h02.size)
  have L3 := Lib.hid hL3
  have T3 := Lib.hid (T2.out.on h23)
  have U3 := Lib.hid (U2.out.on h23)
  have hz2 : w1.heap.size < w2.heap.size := U2.out.lt _ (by simp)
  clear hL3
  have hn : L.length ≤ 64 := L64
  generalize hN : L.length = n at *
  have HN := Lib.hid hN
  clear hN
  go_wp2_with fail
  go_loopw [24] (fun i W => ∃ (k : Nat) (bs' : List Nat), k ≤ n ∧ i = .int .i64 k ∧ Tbl W tb bs' (L.drop k) ∧ (∀ j ∈ bs', j ∈ bs ∨ w3.heap.size ≤ j) ∧ Kp bs w3 W) (fun i _ => n - (intOf i).toNat)
  case atStart => exact ⟨0, bs, Nat.zero_le _, rfl, T3.out, fun j hj => Or.inl hj, Kp.refl _ _⟩
  case round =>
    obtain ⟨k, bs', hk, rfl, hT, hs, hkp⟩ := hrel
    have T := Lib.hid hT
    clear hT
    have LW : Hid (ListAt wr lo g L) := L3.out.keep hkp.size fun h => hkp.block g h fun hm => by have := HTL.out g hm; omega
    have UW : Hid (Tbl wr w1.heap.size [w1.heap.size] []) := U3.out.kp hkp fun j hj hm => by
      have := HTL.out j hm; simp at hj; omega
    have h0r : Below w.heap.size w wr := h03.trans (hkp.below h03.size hbs)
    by_cases hlt : k < n
    · obtain ⟨ho, hgl, hc⟩ := LW.out (by rw [HN.out]; omega)
      subst ho
      obtain ⟨e, he⟩ : ∃ e, L[k]? = some e := ⟨L[k]'(by rw [HN.out]; exact hlt), List.getElem?_eq_getElem _⟩
      obtain ⟨c0, c1⟩ := hc k e he
      have HD : Hid (∀ w', Tbl w' tb bs' (L.drop k) → Calls Try.prog 13 #[.pointer (some ⟨tb, 0, none⟩), .agg #[.int .u32 (e.a : Int), .int .i64 (e.b : Int)]] w' fun r w'' => r = .returned (.int .i64 0) ∧ ∃ bs'', Tbl w'' tb bs'' (L.drop (k + 1)) ∧ Kp bs' w' w'' ∧ ∀ k ∈ bs'', k ∈ bs' ∨ w'.heap.size ≤ k) := fun w' h => drop_next tb bs' L k e w' he h
      clear hc he
      have hba : Below wr.heap.size wr (wr.alloc (.cells #[.int .u32 (e.a : Int), .int .i64 (e.b : Int)] 34)) := (Below.refl _ _).alloc (Nat.le_refl _) _
      have TA := Lib.hid (T.out.on hba)
      go_wp2_with fail
      refine (HD.out _ TA.out).mono ?_; rintro e w4 ⟨rfl, bs4, hT4, hk4, hs4⟩
      have T4 := Lib.hid hT4
      clear hT4
      have k4 : Kp bs w3 w4 := (hkp.trans (Kp.ofBelow (bs := []) hba) (by simp)).trans hk4 hs
      have s4 : ∀ j ∈ bs4, j ∈ bs ∨ w3.heap.size ≤ j := fun j hj => by
        rcases hs4 j hj with h | h
        · exact hs j h
        · right; have := hkp.size; simp at h; omega
      go_wp2_with fail
      go_roundw
      case rel => exact ⟨k + 1, bs4, by omega, by go_num, T4.out, s4, k4⟩
      case measure => simp [intOf]; omega
    · have hdk : L.drop k = [] := by rw [List.drop_eq_nil_iff, HN.out]; omega
      have TE : Hid (Tbl wr tb bs' []) := by
        have := T.out
        rwa [hdk] at this
      have HF := Lib.hid (find_no tb x bs' [] wr hx TE.out rfl)
      clear hdk
      have hbs' : ∀ j ∈ bs', w.heap.size ≤ j := fun j hj => by
        rcases hs j hj with h | h
        · exact hbs j h
        · have := h03.size; omega
      have hut : ∀ j ∈ [w1.heap.size], j ∉ bs' := fun j hj hm => by
        simp at hj
        rcases hs j hm with h | h
        · have := HTL.out j h; omega
        · have := h23.size; omega
      go_wp2_with fail
      refine HF.out.mono ?_; rintro e w4 ⟨rfl, hb4⟩
      have h4a : Below wr.heap.size wr (w4.alloc (.cells #[.int .u32 0, .int .i64 0] 34)) := hb4.alloc hb4.size _
      have HL := Lib.hid (tall_len tb bs' [] 0 _ rfl (TE.out.on h4a))
      go_wp2_with fail
      refine HL.out.mono ?_; rintro e w5 ⟨vo, vc, rfl, hb5⟩
      have h5 := h4a.trans (hb5.mono h4a.size)
      have HA := Lib.hid (add_more tb bs' [] 1 w5 rfl (by simp) (TE.out.on h5))
      go_wp2_with fail
      refine HA.out.mono ?_; rintro e w6 ⟨rfl, bs6, hT6, hk6, hs6⟩
      have HB := Lib.hid (add_more w1.heap.size _ [] 1 w6 rfl (by simp) ((UW.out.on h5).kp hk6 hut))
      have h06 := (h0r.trans (h5.mono h0r.size)).trans (hk6.below (Nat.le_trans h0r.size h5.size) hbs')
      clear hT6
      go_wp2_with fail
      refine HB.out.mono ?_; rintro e w7 ⟨rfl, bs7, hT7, hk7, hs7⟩
      go_wp2_with fail
      go_ret
      exact ⟨rfl, h06.trans (hk7.below h06.size (by simp; have := h01.size; omega))⟩
end Go.Proofs.Ytchmfbfijglokaa
