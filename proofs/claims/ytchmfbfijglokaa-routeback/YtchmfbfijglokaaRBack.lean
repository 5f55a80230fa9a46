/-
  RouteBack, walked: what was added and dropped was never there; in which order prefixes were added is of no matter.
-/
import Derived.Test.YtchmfbfijglokaaEq
namespace Go.Proofs.Ytchmfbfijglokaa
open Go.RowKit
set_option linter.unusedVariables false

theorem ListAt.keepP {W W' : World} {o : Option Addr} {g : Nat} {L : List Ent} (h : ListAt W o g L) (hz : W.heap.size ≤ W'.heap.size) (hb : 0 < L.length → g < W.heap.size → W'.heap[g]? = W.heap[g]?) : ListAt W' o g L :=
  fun hp => (h.keep hz fun hg => hb hp hg) hp
/-- An entry ahead of all others is added. -/
theorem add_next (ub : Nat) (us : List Nat) (U L : List Ent) (m : Nat) (e : Ent) (v : Int) (w : World) (hg : Good L) (he : L[m]? = some e) (hK : KEq U (L.drop (m + 1))) (h : Tbl w ub us U) :
    Calls Try.prog 10 #[.pointer (some ⟨ub, 0, none⟩), .agg #[.int .u32 (e.a : Int), .int .i64 (e.b : Int)], .int .i64 v] w fun r w' => r = .returned (.int .i64 0) ∧ ∃ (us' : List Nat) (U' : List Ent), Tbl w' ub us' U' ∧ KEq U' (L.drop m) ∧ Kp us w w' ∧ ∀ k ∈ us', k ∈ us ∨ w.heap.size ≤ k := by
  have hem : e ∈ L := List.mem_of_getElem? he
  have hd := drop_step he
  have hs : (e :: L.drop (m + 1)).Pairwise Ent.lt := by rw [← hd]; exact hg.sorted.sublist (List.drop_sublist m L)
  rw [List.pairwise_cons] at hs
  have hn : hasE e.a e.b U = false := by
    rw [hK.has]
    apply hasE_none
    intro y hy hh
    have := hs.1 y hy
    unfold Ent.lt at this
    omega
  have hl : U.length < 64 := by
    have h1 := hK.length
    have h2 := congrArg List.length hd
    have h3 := hg.many
    rw [List.length_cons, List.length_drop] at h2
    omega
  have e1 : addC U e.a e.b = 0 := by unfold addC; rw [hg.chk hem, Int.toNat_natCast, hn]; simp; omega
  have e2 : addL U e.a e.b v = ⟨e.a, e.b, v⟩ :: U := by
    unfold addL
    rw [e1, if_pos rfl, Int.toNat_natCast]
    apply insE_front
    intro y hy hh
    obtain ⟨f, hf, k1, k2⟩ := hK.mem hy
    have := hs.1 f hf
    unfold Ent.lt at this
    simp only at hh
    omega
  have := add_any ub us U e.a e.b v w (hg.range e hem).1 h
  rw [e1, e2] at this
  refine Calls.mono this ?_
  rintro r w' ⟨rfl, us', h1, h2, h3⟩
  exact ⟨rfl, us', _, h1, by rw [hd]; exact ⟨rfl, rfl, hK⟩, h2, h3⟩

set_option maxHeartbeats 8000000 in
set_option maxRecDepth 100000 in
theorem back_walk (o : Option Addr) (b off len cap : Nat) (C : Nat → List Value) (S : Nat → Stp) (pa x : Nat) (pb via : Int) (w : World) (hb : 0 < len → o = some ⟨b, off, none⟩ ∧ b < w.heap.size) (hS : StepsAt w b off len C S) (hlen : len ≤ maxLen) (hpa : pa < 4294967296) (hx : x < 4294967296) :
    Calls Try.prog 5 #[.slice o len cap, .agg #[.int .u32 pa, .int .i64 pb], .int .i64 via, .int .u32 x] w fun e w' => e = .returned (.bool true) ∧ Below w.heap.size w w' := by
  have HR := Lib.hid (routes_at cap hb hS hlen)
  have h0 : Below w.heap.size w (w.alloc (.cells #[.int .u32 (pa : Int), .int .i64 pb] 34)) := (Below.refl _ _).alloc (Nat.le_refl _) _
  clear hb hS hlen
  go_enter Try.func5, Try.ntmps5
  go_wp2_with fail
  refine (HR.out _ h0).mono ?_; rintro e w1 ⟨tb, bs, L, rfl, hT1, hb1, hbs⟩
  have T1 := Lib.hid hT1
  have G := Lib.hid hT1.good
  have L64 := hT1.good.many
  have bx := box_keep hb1
  have h01 := h0.trans (hb1.mono (by simp))
  have hbs0 : ∀ k ∈ bs, w.heap.size < k := fun k hk => by have := hbs k hk; simp at this; omega
  have hbs1 : ∀ k ∈ bs, w.heap.size ≤ k := fun k hk => by have := hbs0 k hk; omega
  have BX := Lib.hid bx
  clear hT1 bx
  go_wp2_with fail
  refine (tall_full _ _ _ _ T1.out).mono ?_; rintro e w2 ⟨ho, g, hc, rfl, hL2, hg2, h12⟩
  have L2 := Lib.hid hL2
  have T2 := Lib.hid (T1.out.on h12)
  have h02 := h01.trans (h12.mono h01.size)
  have HF : Hid (∀ bs' w', Tbl w' tb bs' L → Calls Try.prog 18 #[.pointer (some ⟨tb, 0, none⟩), .int .u32 x] w' fun e w'' => e = .returned (.tuple #[.int .i64 (fV (findF x none L)), .agg #[.int .u32 (fA (findF x none L) : Nat), .int .i64 (fB (findF x none L) : Nat)], .bool (findF x none L).isSome]) ∧ Below w'.heap.size w' w'') := fun bs' w' ht => find_any tb x bs' L w' hx ht
  clear hL2
  generalize hR : findF x none L = R at HF
  have HQ := Lib.hid hR
  clear hR
  generalize hA : fA R = A at HF
  generalize hB : fB R = Bq at HF
  generalize hV : fV R = V at HF
  generalize hI : R.isSome = I at HF
  have HA := Lib.hid hA
  have HB := Lib.hid hB
  have HI := Lib.hid hI
  clear hA hB hV hI
  go_wp2_with fail
  refine (HF.out _ _ T2.out).mono ?_; rintro e w3 ⟨rfl, hb3⟩
  have hba3 : Below w2.heap.size w2 (w3.alloc (.cells #[.int .u32 (A : Int), .int .i64 (Bq : Int)] 34)) := hb3.alloc hb3.size _
  have T3 := Lib.hid (T2.out.on hba3)
  have TL3 : Hid (∀ k ∈ bs, k < w1.heap.size) := T1.out.lt
  have h03 := h02.trans (hba3.mono h02.size)
  have hz12 := h12.size
  have hz23 := hb3.size
  have zx : w.heap.size < w3.heap.size := by have := lt_of_block BX.out; omega
  have p3 := (hb3.block _ (by have := lt_of_block BX.out; omega)).trans ((h12.block _ (lt_of_block BX.out)).trans BX.out)
  obtain ⟨p0, p1, _, _⟩ := two_cells p3
  have P3 := Lib.hid p3
  have L3 := Lib.hid (L2.out.keep hba3.size fun h => hba3.block g h)
  have K4 : Hid (∀ w4, Kp bs (w3.alloc (.cells #[.int .u32 (A : Int), .int .i64 (Bq : Int)] 34)) w4 → ListAt w4 ho g L ∧ w4.heap[w3.heap.size]? = some (.cells #[.int .u32 (A : Int), .int .i64 (Bq : Int)] 34 (0, 0)) ∧ Below w.heap.size w w4 ∧ w4.heap[w.heap.size]? = some (.cells #[.int .u32 (pa : Int), .int .i64 pb] 34 (0, 0))) := fun w4 hk => by
    refine ⟨L3.out.keep hk.size fun h => hk.block g h fun hm => ?_, ?_, h03.trans (hk.below h03.size hbs1), ?_⟩
    · have := TL3.out g hm; omega
    · rw [hk.block _ (by simp) (fun hm => by have := TL3.out _ hm; omega)]; exact heap_alloc_new _ _
    · rw [hk.block _ (by simp; omega) (fun hm => by have := hbs0 _ hm; omega), Below.heap_alloc _ _ _ zx]; exact P3.out
  clear p3
  by_cases hc0 : addC L pa pb = 0
  · obtain ⟨k1, k2, k3⟩ := addC_chk hc0
    have hal : addL L pa pb via = insE ⟨pa, pb.toNat, via⟩ L := by unfold addL; rw [hc0, if_pos rfl]
    have HD : Hid (∀ bs' w', Tbl w' tb bs' L → Calls Try.prog 10 #[.pointer (some ⟨tb, 0, none⟩), .agg #[.int .u32 pa, .int .i64 pb], .int .i64 via] w' fun e w'' => e = .returned (.int .i64 0) ∧ ∃ bs'', Tbl w'' tb bs'' (insE ⟨pa, pb.toNat, via⟩ L) ∧ Kp bs' w' w'' ∧ ∀ k ∈ bs'', k ∈ bs' ∨ w'.heap.size ≤ k) := fun bs' w' h => by
      have := add_any tb bs' L pa pb via w' hpa h
      rwa [hc0, hal] at this
    have hd1 : dropC (insE ⟨pa, pb.toNat, via⟩ L) pa pb = 0 := by
      unfold dropC
      rw [k1, hasE_mem (e := ⟨pa, pb.toNat, via⟩) ((mem_insE _ _ _).2 (Or.inl rfl))]; simp
    have hd2 : dropL (insE ⟨pa, pb.toNat, via⟩ L) pa pb = L := by
      unfold dropL
      rw [hd1, if_pos rfl]; exact del_ins (e := ⟨pa, pb.toNat, via⟩) k2
    have HD1 : Hid (∀ bs' w', Tbl w' tb bs' (insE ⟨pa, pb.toNat, via⟩ L) → Calls Try.prog 13 #[.pointer (some ⟨tb, 0, none⟩), .agg #[.int .u32 pa, .int .i64 pb]] w' fun e w'' => e = .returned (.int .i64 0) ∧ ∃ bs'', Tbl w'' tb bs'' L ∧ Kp bs' w' w'' ∧ ∀ k ∈ bs'', k ∈ bs' ∨ w'.heap.size ≤ k) := fun bs' w' h => by
      have := drop_any tb bs' _ pa pb w' hpa h
      rwa [hd1, hd2] at this
    have hd3 : dropC L pa pb = 7 := by unfold dropC; rw [k1, k2]; simp
    have hd4 : dropL L pa pb = L := by unfold dropL; rw [hd3]; simp
    have HD2 : Hid (∀ bs' w', Tbl w' tb bs' L → Calls Try.prog 13 #[.pointer (some ⟨tb, 0, none⟩), .agg #[.int .u32 pa, .int .i64 pb]] w' fun e w'' => e = .returned (.int .i64 7) ∧ ∃ bs'', Tbl w'' tb bs'' L ∧ Kp bs' w' w'' ∧ ∀ k ∈ bs'', k ∈ bs' ∨ w'.heap.size ≤ k) := fun bs' w' h => by
      have := drop_any tb bs' _ pa pb w' hpa h
      rwa [hd3, hd4] at this
    generalize insE ⟨pa, pb.toNat, via⟩ L = L' at *
    clear hc0 k1 k2 k3 hal hd1 hd2 hd3 hd4
    go_wp2_with fail
    refine (HD.out _ _ T3.out).mono ?_; rintro e wx ⟨rfl, bsx, hTx, hkx, hsx⟩
    have Tx := Lib.hid hTx
    clear hTx
    obtain ⟨_, _, _, px⟩ := K4.out wx hkx
    obtain ⟨x0, x1, _, _⟩ := two_cells px
    clear px
    go_wp2_with fail
    refine (HD1.out _ _ Tx.out).mono ?_; rintro e wy ⟨rfl, bsy, hTy, hky, hsy⟩
    have Ty := Lib.hid hTy
    clear hTy
    have kxy := hkx.trans hky (fun j hj => hsx j hj)
    obtain ⟨_, _, _, py⟩ := K4.out wy kxy
    obtain ⟨y0, y1, _, _⟩ := two_cells py
    clear py
    have sxy : ∀ j ∈ bsy, j ∈ bs ∨ (w3.alloc (.cells #[.int .u32 (A : Int), .int .i64 (Bq : Int)] 34)).heap.size ≤ j := fun j hj => by
      rcases hsy j hj with h | h
      · exact hsx j h
      · right; have := hkx.size; omega
    go_wp2_with fail
    refine (HD2.out _ _ Ty.out).mono ?_; rintro e w4 ⟨rfl, bs4, hT4, hk4, hs4⟩
    have T4 := Lib.hid hT4
    clear hT4
    obtain ⟨l4, q4, h04, _⟩ := K4.out w4 (kxy.trans hk4 sxy)
    have L4 := Lib.hid l4
    have BQ4 := Lib.hid q4
    clear l4 q4
    go_wp2_with fail
    refine (HF.out _ _ T4.out).mono ?_; rintro e w5 ⟨rfl, hb5⟩
    have hba5 : Below w4.heap.size w4 (w5.alloc (.cells #[.int .u32 (A : Int), .int .i64 (Bq : Int)] 34)) := hb5.alloc hb5.size _
    have T5 := Lib.hid (T4.out.on hba5)
    go_wp2_with fail
    refine (tall_full _ _ _ _ T5.out).mono ?_; rintro e w6 ⟨lo, g6, lc, rfl, hL6, hg6, hb6⟩
    have br := Lib.hid (box_keep hb6)
    have h46 : Below w4.heap.size w4 w6 := hba5.trans (hb6.mono hba5.size)
    have HE := Lib.hid (eq_any lo ho g6 g lc hc L.length L L w6 hL6 (L4.out.keep h46.size fun h => h46.block g h) (KEq.refl L) rfl L64)
    clear hL6
    go_wp2_with fail
    refine HE.out.mono ?_; rintro e w7 ⟨rfl, hb7⟩
    have h47 : Below w4.heap.size w4 w7 := h46.trans (hb7.mono h46.size)
    have h07 := h04.trans (h47.mono h04.size)
    have BQ7 := Lib.hid ((h47.block _ (lt_of_block BQ4.out)).trans BQ4.out)
    have L7 := Lib.hid (L4.out.keep h47.size fun h => h47.block g h)
    have T7 := Lib.hid (T4.out.on h47)
    obtain ⟨q0, q1, _, _⟩ := two_cells BQ7.out
    obtain ⟨r0, r1, _, _⟩ := two_cells ((hb7.block _ (lt_of_block br.out)).trans br.out)
    go_wp2_with fail
    refine (routes_nil _).mono ?_; rintro e w8 ⟨ub, us, rfl, hU8, hb8, hus⟩
    have U8 := Lib.hid hU8
    have T8 := Lib.hid (T7.out.on hb8)
    have L8 := Lib.hid (L7.out.keep hb8.size fun h => hb8.block g h)
    have BQ8 := Lib.hid ((hb8.block _ (lt_of_block BQ7.out)).trans BQ7.out)
    have h08 := h07.trans (hb8.mono h07.size)
    have nT : Hid (∀ k ∈ bs4, k ∉ us) := fun k hk hm => by have := T7.out.lt k hk; have := hus k hm; omega
    have nQ : Hid (w3.heap.size ∉ us) := fun hm => by have := lt_of_block BQ7.out; have := hus _ hm; omega
    have LK : Hid (∀ W, Kp us w8 W → ListAt W ho g L) := fun W hkp => L8.out.keepP hkp.size fun hp hg => hkp.block g hg fun hm => by have := (L7.out hp).2.1; have := hus _ hm; omega
    have hus0 : ∀ k ∈ us, w.heap.size ≤ k := fun k hk => by have := hus k hk; have := h07.size; omega
    clear hU8
    generalize hN : L.length = n at *
    have HN := Lib.hid hN
    clear hN
    go_wp2_with fail
    go_loopw [18] (fun i W => ∃ (k : Nat) (us' : List Nat) (U : List Ent), k ≤ n ∧ i = .int .i64 ((k : Int) - 1) ∧ Tbl W ub us' U ∧ KEq U (L.drop k) ∧ (∀ j ∈ us', j ∈ us ∨ w8.heap.size ≤ j) ∧ Kp us w8 W) (fun i _ => (intOf i + 1).toNat)
    case atStart => exact ⟨n, us, [], Nat.le_refl _, rfl, U8.out, by rw [List.drop_of_length_le (by rw [HN.out]; exact Nat.le_refl _)]; trivial, fun j hj => Or.inl hj, Kp.refl _ _⟩
    case round =>
      obtain ⟨k, us', U, hk, rfl, hU, hKU, hs, hkp⟩ := hrel
      have UW := Lib.hid hU
      have KU := Lib.hid hKU
      clear hU hKU
      have TW : Hid (Tbl wr tb bs4 L) := T8.out.kp hkp nT.out
      have h0r : Below w.heap.size w wr := h08.trans (hkp.below h08.size hus0)
      have hus' : ∀ j ∈ us', w.heap.size ≤ j := fun j hj => by
        rcases hs j hj with h | h
        · exact hus0 j h
        · have := h08.size; omega
      rcases Nat.eq_zero_or_pos k with rfl | hkp0
      · have KU0 : Hid (KEq U L) := KU.out
        obtain ⟨f1, f2, f3⟩ := (KU0.out.find x (o := none) (p := none) trivial).same
        have HF9 := Lib.hid (find_any ub x us' U wr hx UW.out)
        rw [f1, f2, f3, HQ.out, HA.out, HB.out, HI.out] at HF9
        generalize fV (findF x none U) = V9 at HF9
        have BQr := Lib.hid ((hkp.block _ (lt_of_block BQ8.out) nQ.out).trans BQ8.out)
        have Lr := Lib.hid (LK.out wr hkp)
        have NU : Hid (U.length = n) := KU0.out.length.trans HN.out
        clear f1 f2 f3
        go_wp2_with fail
        refine HF9.out.mono ?_; rintro e w9 ⟨rfl, hb9⟩
        have hba9 : Below wr.heap.size wr (w9.alloc (.cells #[.int .u32 (A : Int), .int .i64 (Bq : Int)] 34)) := hb9.alloc hb9.size _
        have HT := Lib.hid (tall_full _ _ _ _ (UW.out.on hba9))
        rw [NU.out] at HT
        go_wp2_with fail
        refine HT.out.mono ?_; rintro e wa ⟨l9, g9, c9, rfl, hL9, hg9, hb9a⟩
        have bs9 := Lib.hid (box_keep hb9a)
        have hra : Below wr.heap.size wr wa := hba9.trans (hb9a.mono hba9.size)
        have HE := Lib.hid (eq_any l9 ho g9 g c9 hc n U L wa hL9 (Lr.out.keep hra.size fun h => hra.block g h) KU0.out NU.out L64)
        clear hL9
        go_wp2_with fail
        refine HE.out.mono ?_; rintro e wb ⟨rfl, hbb⟩
        have hrb : Below wr.heap.size wr wb := hra.trans (hbb.mono hra.size)
        obtain ⟨s0, s1, _, _⟩ := two_cells ((hbb.block _ (lt_of_block bs9.out)).trans bs9.out)
        obtain ⟨t0, t1, _, _⟩ := two_cells ((hrb.block _ (lt_of_block BQr.out)).trans BQr.out)
        go_wp2_with fail
        go_ret
        exact ⟨rfl, h0r.trans (hrb.mono h0r.size)⟩
      · obtain ⟨m, rfl⟩ : ∃ m, k = m + 1 := ⟨k - 1, by omega⟩
        rw [show (((m + 1 : Nat) : Int) - 1) = (m : Int) from by omega]
        obtain ⟨ho', hgl, hcc⟩ := LK.out wr hkp (by rw [HN.out]; omega)
        obtain ⟨e, he⟩ : ∃ e, L[m]? = some e := ⟨L[m]'(by rw [HN.out]; omega), List.getElem?_eq_getElem _⟩
        obtain ⟨c0, c1⟩ := hcc m e he
        have hem : e ∈ L := List.mem_of_getElem? he
        have her := (G.out.range e hem).1
        have HF9 := Lib.hid (find_any tb e.a bs4 L wr her TW.out)
        have HU : Hid (∀ (v : Int) w', Tbl w' ub us' U → Calls Try.prog 10 #[.pointer (some ⟨ub, 0, none⟩), .agg #[.int .u32 (e.a : Int), .int .i64 (e.b : Int)], .int .i64 v] w' fun r w'' => r = .returned (.int .i64 0) ∧ ∃ (us'' : List Nat) (U' : List Ent), Tbl w'' ub us'' U' ∧ KEq U' (L.drop m) ∧ Kp us' w' w'' ∧ ∀ k ∈ us'', k ∈ us' ∨ w'.heap.size ≤ k) := fun v w' h => add_next ub us' U L m e v w' G.out he KU.out h
        generalize fV (findF e.a none L) = V9 at HF9
        generalize fA (findF e.a none L) = A9 at HF9
        generalize fB (findF e.a none L) = B9 at HF9
        generalize (findF e.a none L).isSome = I9 at HF9
        clear hcc he hem
        subst ho'
        go_wp2_with fail
        refine HF9.out.mono ?_; rintro r w9 ⟨rfl, hb9⟩
        have hba9 : Below wr.heap.size wr (w9.alloc (.cells #[.int .u32 (A9 : Int), .int .i64 (B9 : Int)] 34)) := hb9.alloc hb9.size _
        have x0 : w9.cell? ⟨g, m * 2, none⟩ = some (.int .u32 (e.a : Int)) := (hb9.cell (p := ⟨g, m * 2, none⟩) hgl).trans c0
        have x1 : w9.cell? ⟨g, m * 2 + 1, none⟩ = some (.int .i64 (e.b : Int)) := (hb9.cell (p := ⟨g, m * 2 + 1, none⟩) hgl).trans c1
        have hg9 : g < w9.heap.size := by have := hb9.size; omega
        go_wp2_with fail
        refine (HU.out _ _ (UW.out.on hba9)).mono ?_; rintro r wa ⟨rfl, us2, U2, hT2, hK2, hk2, hs2⟩
        have TA := Lib.hid hT2
        have KA := Lib.hid hK2
        clear hT2 hK2
        have ka : Kp us w8 wa := (hkp.trans (Kp.ofBelow (bs := []) hba9) (by simp)).trans hk2 hs
        have sa : ∀ j ∈ us2, j ∈ us ∨ w8.heap.size ≤ j := fun j hj => by
          rcases hs2 j hj with h | h
          · exact hs j h
          · right; have := hkp.size; have := hb9.size; simp at h; omega
        go_wp2_with fail
        go_roundw
        case rel => exact ⟨m, us2, U2, by omega, rfl, TA.out, KA.out, sa, ka⟩
        case measure => simp [intOf]; try omega
  · have hal : addL L pa pb via = L := by unfold addL; rw [if_neg hc0]
    have HD : Hid (∀ bs' w', Tbl w' tb bs' L → Calls Try.prog 10 #[.pointer (some ⟨tb, 0, none⟩), .agg #[.int .u32 pa, .int .i64 pb], .int .i64 via] w' fun e w'' => e = .returned (.int .i64 (addC L pa pb)) ∧ ∃ bs'', Tbl w'' tb bs'' L ∧ Kp bs' w' w'' ∧ ∀ k ∈ bs'', k ∈ bs' ∨ w'.heap.size ≤ k) := fun bs' w' h => by
      have := add_any tb bs' L pa pb via w' hpa h
      rwa [hal] at this
    have hz0 : (addC L pa pb == 0) = false := by simpa using hc0
    generalize addC L pa pb = c at *
    clear hc0 hal
    go_wp2_with fail
    refine (HD.out _ _ T3.out).mono ?_; rintro e w4 ⟨rfl, bs4, hT4, hk4, hs4⟩
    have T4 := Lib.hid hT4
    clear hT4
    obtain ⟨l4, q4, h04, _⟩ := K4.out w4 hk4
    have L4 := Lib.hid l4
    have BQ4 := Lib.hid q4
    clear l4 q4
    go_wp2_with fail
    refine (HF.out _ _ T4.out).mono ?_; rintro e w5 ⟨rfl, hb5⟩
    have hba5 : Below w4.heap.size w4 (w5.alloc (.cells #[.int .u32 (A : Int), .int .i64 (Bq : Int)] 34)) := hb5.alloc hb5.size _
    have T5 := Lib.hid (T4.out.on hba5)
    go_wp2_with fail
    refine (tall_full _ _ _ _ T5.out).mono ?_; rintro e w6 ⟨lo, g6, lc, rfl, hL6, hg6, hb6⟩
    have br := Lib.hid (box_keep hb6)
    have h46 : Below w4.heap.size w4 w6 := hba5.trans (hb6.mono hba5.size)
    have HE := Lib.hid (eq_any lo ho g6 g lc hc L.length L L w6 hL6 (L4.out.keep h46.size fun h => h46.block g h) (KEq.refl L) rfl L64)
    clear hL6
    go_wp2_with fail
    refine HE.out.mono ?_; rintro e w7 ⟨rfl, hb7⟩
    have h47 : Below w4.heap.size w4 w7 := h46.trans (hb7.mono h46.size)
    have h07 := h04.trans (h47.mono h04.size)
    have BQ7 := Lib.hid ((h47.block _ (lt_of_block BQ4.out)).trans BQ4.out)
    have L7 := Lib.hid (L4.out.keep h47.size fun h => h47.block g h)
    have T7 := Lib.hid (T4.out.on h47)
    obtain ⟨q0, q1, _, _⟩ := two_cells BQ7.out
    obtain ⟨r0, r1, _, _⟩ := two_cells ((hb7.block _ (lt_of_block br.out)).trans br.out)
    go_wp2_with fail
    refine (routes_nil _).mono ?_; rintro e w8 ⟨ub, us, rfl, hU8, hb8, hus⟩
    have U8 := Lib.hid hU8
    have T8 := Lib.hid (T7.out.on hb8)
    have L8 := Lib.hid (L7.out.keep hb8.size fun h => hb8.block g h)
    have BQ8 := Lib.hid ((hb8.block _ (lt_of_block BQ7.out)).trans BQ7.out)
    have h08 := h07.trans (hb8.mono h07.size)
    have nT : Hid (∀ k ∈ bs4, k ∉ us) := fun k hk hm => by have := T7.out.lt k hk; have := hus k hm; omega
    have nQ : Hid (w3.heap.size ∉ us) := fun hm => by have := lt_of_block BQ7.out; have := hus _ hm; omega
    have LK : Hid (∀ W, Kp us w8 W → ListAt W ho g L) := fun W hkp => L8.out.keepP hkp.size fun hp hg => hkp.block g hg fun hm => by have := (L7.out hp).2.1; have := hus _ hm; omega
    have hus0 : ∀ k ∈ us, w.heap.size ≤ k := fun k hk => by have := hus k hk; have := h07.size; omega
    clear hU8
    generalize hN : L.length = n at *
    have HN := Lib.hid hN
    clear hN
    go_wp2_with fail
    go_loopw [18] (fun i W => ∃ (k : Nat) (us' : List Nat) (U : List Ent), k ≤ n ∧ i = .int .i64 ((k : Int) - 1) ∧ Tbl W ub us' U ∧ KEq U (L.drop k) ∧ (∀ j ∈ us', j ∈ us ∨ w8.heap.size ≤ j) ∧ Kp us w8 W) (fun i _ => (intOf i + 1).toNat)
    case atStart => exact ⟨n, us, [], Nat.le_refl _, rfl, U8.out, by rw [List.drop_of_length_le (by rw [HN.out]; exact Nat.le_refl _)]; trivial, fun j hj => Or.inl hj, Kp.refl _ _⟩
    case round =>
      obtain ⟨k, us', U, hk, rfl, hU, hKU, hs, hkp⟩ := hrel
      have UW := Lib.hid hU
      have KU := Lib.hid hKU
      clear hU hKU
      have TW : Hid (Tbl wr tb bs4 L) := T8.out.kp hkp nT.out
      have h0r : Below w.heap.size w wr := h08.trans (hkp.below h08.size hus0)
      have hus' : ∀ j ∈ us', w.heap.size ≤ j := fun j hj => by
        rcases hs j hj with h | h
        · exact hus0 j h
        · have := h08.size; omega
      rcases Nat.eq_zero_or_pos k with rfl | hkp0
      · have KU0 : Hid (KEq U L) := KU.out
        obtain ⟨f1, f2, f3⟩ := (KU0.out.find x (o := none) (p := none) trivial).same
        have HF9 := Lib.hid (find_any ub x us' U wr hx UW.out)
        rw [f1, f2, f3, HQ.out, HA.out, HB.out, HI.out] at HF9
        generalize fV (findF x none U) = V9 at HF9
        have BQr := Lib.hid ((hkp.block _ (lt_of_block BQ8.out) nQ.out).trans BQ8.out)
        have Lr := Lib.hid (LK.out wr hkp)
        have NU : Hid (U.length = n) := KU0.out.length.trans HN.out
        clear f1 f2 f3
        go_wp2_with fail
        refine HF9.out.mono ?_; rintro e w9 ⟨rfl, hb9⟩
        have hba9 : Below wr.heap.size wr (w9.alloc (.cells #[.int .u32 (A : Int), .int .i64 (Bq : Int)] 34)) := hb9.alloc hb9.size _
        have HT := Lib.hid (tall_full _ _ _ _ (UW.out.on hba9))
        rw [NU.out] at HT
        go_wp2_with fail
        refine HT.out.mono ?_; rintro e wa ⟨l9, g9, c9, rfl, hL9, hg9, hb9a⟩
        have bs9 := Lib.hid (box_keep hb9a)
        have hra : Below wr.heap.size wr wa := hba9.trans (hb9a.mono hba9.size)
        have HE := Lib.hid (eq_any l9 ho g9 g c9 hc n U L wa hL9 (Lr.out.keep hra.size fun h => hra.block g h) KU0.out NU.out L64)
        clear hL9
        go_wp2_with fail
        refine HE.out.mono ?_; rintro e wb ⟨rfl, hbb⟩
        have hrb : Below wr.heap.size wr wb := hra.trans (hbb.mono hra.size)
        obtain ⟨s0, s1, _, _⟩ := two_cells ((hbb.block _ (lt_of_block bs9.out)).trans bs9.out)
        obtain ⟨t0, t1, _, _⟩ := two_cells ((hrb.block _ (lt_of_block BQr.out)).trans BQr.out)
        go_wp2_with fail
        go_ret
        exact ⟨rfl, h0r.trans (hrb.mono h0r.size)⟩
      · obtain ⟨m, rfl⟩ : ∃ m, k = m + 1 := ⟨k - 1, by omega⟩
        rw [show (((m + 1 : Nat) : Int) - 1) = (m : Int) from by omega]
        obtain ⟨ho', hgl, hcc⟩ := LK.out wr hkp (by rw [HN.out]; omega)
        obtain ⟨e, he⟩ : ∃ e, L[m]? = some e := ⟨L[m]'(by rw [HN.out]; omega), List.getElem?_eq_getElem _⟩
        obtain ⟨c0, c1⟩ := hcc m e he
        have hem : e ∈ L := List.mem_of_getElem? he
        have her := (G.out.range e hem).1
        have HF9 := Lib.hid (find_any tb e.a bs4 L wr her TW.out)
        have HU : Hid (∀ (v : Int) w', Tbl w' ub us' U → Calls Try.prog 10 #[.pointer (some ⟨ub, 0, none⟩), .agg #[.int .u32 (e.a : Int), .int .i64 (e.b : Int)], .int .i64 v] w' fun r w'' => r = .returned (.int .i64 0) ∧ ∃ (us'' : List Nat) (U' : List Ent), Tbl w'' ub us'' U' ∧ KEq U' (L.drop m) ∧ Kp us' w' w'' ∧ ∀ k ∈ us'', k ∈ us' ∨ w'.heap.size ≤ k) := fun v w' h => add_next ub us' U L m e v w' G.out he KU.out h
        generalize fV (findF e.a none L) = V9 at HF9
        generalize fA (findF e.a none L) = A9 at HF9
        generalize fB (findF e.a none L) = B9 at HF9
        generalize (findF e.a none L).isSome = I9 at HF9
        clear hcc he hem
        subst ho'
        go_wp2_with fail
        refine HF9.out.mono ?_; rintro r w9 ⟨rfl, hb9⟩
        have hba9 : Below wr.heap.size wr (w9.alloc (.cells #[.int .u32 (A9 : Int), .int .i64 (B9 : Int)] 34)) := hb9.alloc hb9.size _
        have x0 : w9.cell? ⟨g, m * 2, none⟩ = some (.int .u32 (e.a : Int)) := (hb9.cell (p := ⟨g, m * 2, none⟩) hgl).trans c0
        have x1 : w9.cell? ⟨g, m * 2 + 1, none⟩ = some (.int .i64 (e.b : Int)) := (hb9.cell (p := ⟨g, m * 2 + 1, none⟩) hgl).trans c1
        have hg9 : g < w9.heap.size := by have := hb9.size; omega
        go_wp2_with fail
        refine (HU.out _ _ (UW.out.on hba9)).mono ?_; rintro r wa ⟨rfl, us2, U2, hT2, hK2, hk2, hs2⟩
        have TA := Lib.hid hT2
        have KA := Lib.hid hK2
        clear hT2 hK2
        have ka : Kp us w8 wa := (hkp.trans (Kp.ofBelow (bs := []) hba9) (by simp)).trans hk2 hs
        have sa : ∀ j ∈ us2, j ∈ us ∨ w8.heap.size ≤ j := fun j hj => by
          rcases hs2 j hj with h | h
          · exact hs j h
          · right; have := hkp.size; have := hb9.size; simp at h; omega
        go_wp2_with fail
        go_roundw
        case rel => exact ⟨m, us2, U2, by omega, rfl, TA.out, KA.out, sa, ka⟩
        case measure => simp [intOf]; try omega
end Go.Proofs.Ytchmfbfijglokaa
