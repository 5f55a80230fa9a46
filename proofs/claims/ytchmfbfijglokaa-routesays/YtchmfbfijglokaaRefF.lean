/-
  Contracts of the document's All and Find of a table.
-/
import Derived.Test.YtchmfbfijglokaaRefT
import Derived.Test.YtchmfbfijglokaaRBest
namespace Go.Proofs.Ytchmfbfijglokaa
open Go.RowKit
set_option linter.unusedVariables false

set_option maxHeartbeats 2000000 in
theorem rall_any (rb g cap : Nat) (o : Option Addr) (L : List Ent) (w : World) (h : RT w rb o g cap L) (hn : L.length ≤ 64) :
    Calls Try.prog 17 #[.pointer (some ⟨rb, 0, none⟩)] w fun e w' => ∃ (lo : Option Addr) (lg lc : Nat), e = .returned (.slice lo L.length lc) ∧ ListAt w' lo lg L ∧ w.heap.size ≤ lg ∧ Below w.heap.size w w' := by
  obtain ⟨i0, hi0, hz0, hz1, hz2⟩ := info_parts info34
  have hc := cell_of_one h.var
  have hrl := h.lt
  have HR := Lib.hid h.row
  generalize hN : L.length = n at *
  have HN := Lib.hid hN
  clear h hN
  go_enter Try.func17, Try.ntmps17
  go_wp2_with fail
  go_loopw [11, 3] (fun i l W => ∃ k : Nat, k ≤ n ∧ i = .int .i64 k ∧ W.ownsRow w.heap.size 34 2 l k (ecells (L.take k)) ∧ Below w.heap.size w W) (fun i _ _ => n - (intOf i).toNat)
  case atStart => exact ⟨0, Nat.zero_le _, rfl, World.ownsRow_nil _ _ _ _, Below.refl _ _⟩
  case round =>
    obtain ⟨k, hk, rfl, hown, hbel⟩ := hrel
    have hsz := hbel.size
    have olt := hown.lt
    by_cases hlt : k < n
    · obtain ⟨rfl, hgl, hcc⟩ := (HR.out.on hbel) (by rw [HN.out]; omega)
      obtain ⟨e, he⟩ : ∃ e, L[k]? = some e := ⟨L[k]'(by rw [HN.out]; exact hlt), List.getElem?_eq_getElem _⟩
      obtain ⟨c0, c1, c2⟩ := hcc k e he
      have HT : Hid (ecells (L.take (k + 1)) = ecells (L.take k) ++ [.int .u32 (e.a : Int), .int .i64 (e.b : Int)]) := by show _ = _; rw [take_next he, ecells_append]; rfl
      clear hcc he
      go_wp2_with (at_builtin; refine wpList_append_lies _ rfl _ _ _ rfl w.heap.size 34 i0 _ 2 16 Try.underlying50 hi0 hz0 hz1 hz2 rfl (by omega) _ k (ecells (L.take k)) rfl ((hown.alloc _).alloc _) ⟨wr.heap.size + 1, 0, none⟩ 1 1 [.int .u32 (e.a : Int), .int .i64 (e.b : Int)] rfl rfl (World.news_of_block (cs := #[.int .u32 (e.a : Int), .int .i64 (e.b : Int)]) (t := 34) (fr := (0, 0)) (by simpa using heap_alloc_new (wr.alloc (.cells #[.int .u32 (e.a : Int), .int .i64 (e.b : Int), .int .i64 e.v] 67)) (.cells #[.int .u32 (e.a : Int), .int .i64 (e.b : Int)] 34))) (by simp [Value.oneCell']) (by omega) (by unfold maxLen; omega) (by omega) (by simp; omega) (wr.heap.size + 2) (by simp) ?_; intro g2 cap2 w2 own2 hgrow hat hglt)
      have h02 : Below w.heap.size w w2 := ((hbel.alloc (by omega) _).alloc (by simp; omega) _).grown hgrow (by simp; omega) (fun k hk => (olt k hk).1)
      go_roundw
      case rel => exact ⟨k + 1, by omega, by go_num, by rw [HT.out]; exact own2, h02⟩
      case measure => simp [intOf]; omega
    · obtain rfl : k = n := by omega
      have htk : L.take k = L := List.take_of_length_le (by rw [HN.out]; exact Nat.le_refl _)
      rw [htk] at hown
      clear htk
      have hown' := hown
      rcases hown.2 with ⟨rfl, h0⟩ | ⟨g9, cap9, cur, rfl, hg, _⟩
      · have HO := Lib.hid h0
        clear hown hown' h0
        go_wp2_with fail
        go_ret
        exact ⟨none, w.heap.size, 0, by rw [HO.out]; rfl, fun hp => by have := HN.out; have := HO.out; omega, Nat.le_refl _, hbel⟩
      · have HO := Lib.hid hown'
        clear hown hown'
        go_wp2_with fail
        go_ret
        have hown := HO.out
        refine ⟨some ⟨g9, 0, none⟩, g9, cap9, rfl, fun hp => ⟨rfl, (hown.lt g9 rfl).2, fun i e he => ?_⟩, hg, hbel⟩
        have hi := (List.getElem?_eq_some_iff.1 he).1
        have := HN.out
        obtain ⟨h1, h2⟩ := ecells_get L i e he
        rw [hown.cellAt (i * 2) (by omega), hown.cellAt (i * 2 + 1) (by omega)]
        exact ⟨h1, h2⟩

theorem three_cells {w : World} {k : Nat} {a b c : Value} {T : TypeId} (h : w.heap[k]? = some (.cells #[a, b, c] T (0, 0))) :
    w.cell? ⟨k, 0, none⟩ = some a ∧ w.cell? ⟨k, 1, none⟩ = some b ∧ w.cell? ⟨k, 2, none⟩ = some c ∧ w.frozen? ⟨k, 0, none⟩ = false ∧ w.frozen? ⟨k, 1, none⟩ = false ∧ w.frozen? ⟨k, 2, none⟩ = false := by
  simp [World.cell?, World.frozen?, h]
theorem findF_snoc (x : Nat) (L : List Ent) (e : Ent) : findF x none (L ++ [e]) = if inP e.a e.b x = true then some e else findF x none L := by rw [findF_append]; rfl

set_option maxHeartbeats 4000000 in
theorem rfind_any (rb g cap x : Nat) (o : Option Addr) (L : List Ent) (w : World) (h : RT w rb o g cap L) (hG : Good L) (hx : x < 4294967296) :
    Calls Try.prog 19 #[.pointer (some ⟨rb, 0, none⟩), .int .u32 x] w fun e w' => e = .returned (.tuple #[.int .i64 (fV (findF x none L)), .agg #[.int .u32 (fA (findF x none L) : Nat), .int .i64 (fB (findF x none L) : Nat)], .bool (findF x none L).isSome]) ∧ Below w.heap.size w w' := by
  have hc := cell_of_one h.var
  have hrl := h.lt
  have hn := hG.many
  have HR := Lib.hid h.row
  have G := Lib.hid hG
  generalize hN : L.length = n at *
  have HN := Lib.hid hN
  clear h hN hG
  have m1 : rb < w.heap.size + 1 := by omega
  generalize hF0 : findF x none L = R0
  have HF0 := Lib.hid hF0
  clear hF0
  go_enter Try.func19, Try.ntmps19
  go_wp2_with fail
  go_loopw [16, 8] (fun i s W => ∃ k : Nat, k ≤ n ∧ i = .int .i64 k ∧ s = .bool (findF x none (L.take k)).isSome ∧ W.heap[w.heap.size + 1]? = some (.cells #[.int .u32 (fA (findF x none (L.take k)) : Nat), .int .i64 (fB (findF x none (L.take k)) : Nat), .int .i64 (fV (findF x none (L.take k)))] 67 (0, 0)) ∧ W.heap[w.heap.size]? = some (.cells #[.int .u32 0, .int .i64 0] 34 (0, 0)) ∧ Below w.heap.size w W) (fun i _ _ => n - (intOf i).toNat)
  case atStart =>
    refine ⟨0, Nat.zero_le _, rfl, rfl, ?_, ?_, ((Below.refl _ _).alloc (Nat.le_refl _) _).alloc (by simp) _⟩
    · exact hnew _ _ _ (by simp)
    · rw [Below.heap_alloc _ _ _ (by simp)]; exact heap_alloc_new _ _
  case round =>
    obtain ⟨k, hk, rfl, rfl, hbb, hbr, hbel⟩ := hrel
    have BB := Lib.hid hbb
    have BR := Lib.hid hbr
    have zb := lt_of_block hbb
    obtain ⟨q0, q1, q2, y0, y1, y2⟩ := three_cells hbb
    obtain ⟨r0, r1, r2, r3⟩ := two_cells hbr
    clear hbb hbr
    by_cases hlt : k < n
    · obtain ⟨rfl, hgl, hcc⟩ := (HR.out.on hbel) (by rw [HN.out]; omega)
      obtain ⟨e, he⟩ : ∃ e, L[k]? = some e := ⟨L[k]'(by rw [HN.out]; exact hlt), List.getElem?_eq_getElem _⟩
      obtain ⟨c0, c1, c2⟩ := hcc k e he
      have hem : e ∈ L := List.mem_of_getElem? he
      have her := G.out.range e hem
      have HH : Hid (∀ w', Calls Try.prog 33 #[.agg #[.int .u32 (e.a : Int), .int .i64 (e.b : Int)], .int .u32 x] w' fun r w'' => r = .returned (.bool (inP e.a e.b x)) ∧ Below w'.heap.size w' w'') := fun w' => by
        have := rhas_any e.a x e.b w' her.1 hx
        rwa [has_inP her.2 (G.out.align e hem)] at this
      have HF : Hid (findF x none (L.take (k + 1)) = if inP e.a e.b x = true then some e else findF x none (L.take k)) := by show _ = _; rw [take_next he, findF_snoc]
      have HL : Hid (∀ q, findF x none (L.take k) = some q → inP e.a e.b x = true → (q.b : Int) < (e.b : Int)) := fun q hq hi => by
        have hgt : Good (L.take k) := ⟨G.out.sorted.sublist (List.take_sublist k L), fun y hy => G.out.align y (List.mem_of_mem_take hy), fun y hy => G.out.range y (List.mem_of_mem_take hy), by have := List.length_take_le k L; have := HN.out; rw [List.length_take]; omega⟩
        obtain ⟨f1, f2, _⟩ := find_some hgt hq
        have hs := G.out.sorted
        rw [← List.take_append_drop k L, List.pairwise_append] at hs
        have hlt := hs.2.2 q f1 e (by rw [drop_step he]; exact List.mem_cons_self)
        have := lt_bits hlt f2 hi (hgt.range q f1).2
        omega
      generalize findF x none (L.take k) = R at *
      clear hcc he hem
      cases hi : inP e.a e.b x with
      | false =>
        rw [hi] at HH
        have HF : Hid (findF x none (L.take (k + 1)) = R) := by
          have := HF.out
          rwa [hi, if_neg (by simp)] at this
        clear hi
        go_wp2_with fail
        refine (HH.out _).mono ?_; rintro r w4 ⟨rfl, hb4⟩
        have h34 : Below wr.heap.size wr w4 := ((Below.refl _ _).alloc (Nat.le_refl _) _).trans (hb4.mono (by simp))
        go_wp2_with fail
        go_roundw
        case rel => exact ⟨k + 1, by omega, by go_num, by rw [HF.out], by rw [HF.out]; exact (h34.block _ zb).trans BB.out, (h34.block _ (lt_of_block BR.out)).trans BR.out, hbel.trans (h34.mono hbel.size)⟩
        case measure => simp [intOf]; omega
      | true =>
        rw [hi] at HH
        have HF1 : Hid (findF x none (L.take (k + 1)) = some e) := by
          have := HF.out
          rwa [hi, if_pos rfl] at this
        cases R with
        | none =>
          clear hi
          go_wp2_with fail
          refine (HH.out _).mono ?_; rintro r w4 ⟨rfl, hb4⟩
          have h34 : Below wr.heap.size wr w4 := ((Below.refl _ _).alloc (Nat.le_refl _) _).trans (hb4.mono (by simp))
          obtain ⟨s0, s1, s2, _, _, _⟩ := three_cells (box_keep hb4)
          have B4 := Lib.hid ((h34.block _ zb).trans BB.out)
          obtain ⟨u0, u1, u2, v0, v1, v2⟩ := three_cells B4.out
          go_wp2_with fail
          go_roundw
          case rel =>
            have hbr : Below wr.heap.size wr w4 := h34
            refine ⟨k + 1, by omega, by go_num, by rw [HF1.out]; rfl, ?_, ?_, ((((hbel.trans (h34.mono hbel.size)).setCell (by simp) _).setCell (by simp) _).setCell (by simp) _)⟩
            · rw [HF1.out, Joins.block_setCell (Joins.block_setCell (Joins.block_setCell B4.out _) _)]; rfl
            · rw [Below.heap_setCell _ _ _ _ (by simp), Below.heap_setCell _ _ _ _ (by simp), Below.heap_setCell _ _ _ _ (by simp), h34.block _ (lt_of_block BR.out)]; exact BR.out
          case measure => simp [intOf]; omega
        | some q =>
          have hqe := HL.out q rfl hi
          have hqn : fB (some q) < e.b := by show q.b < e.b; omega
          have hqd : ((fB (some q) : Nat) : Int) < (e.b : Int) := by omega
          clear hi
          go_wp2_with fail
          refine (HH.out _).mono ?_; rintro r w4 ⟨rfl, hb4⟩
          have h34 : Below wr.heap.size wr w4 := ((Below.refl _ _).alloc (Nat.le_refl _) _).trans (hb4.mono (by simp))
          obtain ⟨s0, s1, s2, _, _, _⟩ := three_cells (box_keep hb4)
          have B4 := Lib.hid ((h34.block _ zb).trans BB.out)
          obtain ⟨u0, u1, u2, v0, v1, v2⟩ := three_cells B4.out
          go_wp2_with fail
          go_roundw
          case rel =>
            have hbr : Below wr.heap.size wr w4 := h34
            refine ⟨k + 1, by omega, by go_num, by rw [HF1.out]; rfl, ?_, ?_, ((((hbel.trans (h34.mono hbel.size)).setCell (by simp) _).setCell (by simp) _).setCell (by simp) _)⟩
            · rw [HF1.out, Joins.block_setCell (Joins.block_setCell (Joins.block_setCell B4.out _) _)]; rfl
            · rw [Below.heap_setCell _ _ _ _ (by simp), Below.heap_setCell _ _ _ _ (by simp), Below.heap_setCell _ _ _ _ (by simp), h34.block _ (lt_of_block BR.out)]; exact BR.out
          case measure => simp [intOf]; omega
    · obtain rfl : k = n := by omega
      have htk : L.take k = L := List.take_of_length_le (by rw [HN.out]; exact Nat.le_refl _)
      have he0 : findF x none (L.take k) = R0 := by rw [htk]; exact HF0.out
      rw [he0] at q0 q1 q2 ⊢
      clear he0
      have hzr := lt_of_block BR.out
      clear htk
      go_wp2_with fail
      go_region
      all_goals
        go_wp2_with fail
        exact bodyPost_ret (v := .tuple #[.int .i64 (fV R0), .agg #[.int .u32 (fA R0 : Nat), .int .i64 (fB R0 : Nat)], .bool R0.isSome]) (by simp [results, Try.results19, go_sem, r0, r1]) rfl ⟨rfl, ((hbel.setCell (by simp) _).setCell (by simp) _).drew⟩
end Go.Proofs.Ytchmfbfijglokaa
