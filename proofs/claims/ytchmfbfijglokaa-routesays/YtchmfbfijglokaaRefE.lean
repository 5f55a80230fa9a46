/-
  Contract of the document's Add of a table.
-/
import Derived.Test.YtchmfbfijglokaaRefD
import Derived.Deep.CutBlock
namespace Go.Proofs.Ytchmfbfijglokaa
open Go.RowKit
set_option linter.unusedVariables false

/-- Where a slice of rows begins from row k on. -/
def cutO (o : Option Addr) (cap k : Nat) : Option Addr := if cap = k then o else o.map (·.add (k * 3))
theorem slice_rest (o : Option Addr) (n cap k : Nat) (w : World) (hk : k ≤ n) :
    (Instr.slice 27 (.slice o n cap) (some (.int .i64 (k : Int))) none none).run Try.prog w = .ok (.slice (cutO o cap k) (n - k) (cap - k)) w := by
  have h1 : (0 : Int) ≤ (k : Int) ∧ (k : Int) ≤ (n : Int) := by omega
  have h3 : (Try.prog.info? 67).map (·.size) = some 3 := by kernel_rfl
  cases hq : Try.prog.info? 67 with
  | none => simp [hq] at h3
  | some i =>
    have hs : i.size = 3 := by simpa [hq] using h3
    unfold cutO
    simp [Instr.slice, Instr.sliceBounds, Instr.sliceBound, run_underlying Try.underlying27, asIntOf, sizeOf, typeInfo, hq, hs, h1, go_sem]
    intro h; omega
theorem RT.src_take {W : World} {rb g cap : Nat} {o : Option Addr} {L : List Ent} (h : RT W rb o g cap L) (k : Nat) (hk : k ≤ L.length) : Src W o k (rcells (L.take k)) := by
  rcases Nat.eq_zero_or_pos L.length with h0 | h0
  · obtain rfl : k = 0 := by omega
    exact ⟨rfl, (fun c hc => by cases hc), fun _ => rfl, fun ad _ j u hu => by simp [rcells] at hu⟩
  · obtain ⟨rfl, _⟩ := h.row h0
    exact h.row.src_take h0 k hk
theorem RT.src_drop {W : World} {rb g cap : Nat} {o : Option Addr} {L : List Ent} (h : RT W rb o g cap L) (k : Nat) (hk : k ≤ L.length) : Src W (cutO o cap k) (L.length - k) (rcells (L.drop k)) := by
  rcases Nat.eq_zero_or_pos L.length with h0 | h0
  · obtain rfl : k = 0 := by omega
    rw [List.eq_nil_of_length_eq_zero h0]
    exact ⟨rfl, (fun c hc => by cases hc), fun _ => rfl, fun ad _ j u hu => by simp [rcells] at hu⟩
  · obtain ⟨rfl, _⟩ := h.row h0
    have := h.row.src_drop h0 cap k hk h.le
    unfold cutO
    by_cases hc : cap = k
    · rw [if_pos hc] at this ⊢; exact this
    · rw [if_neg hc] at this ⊢
      rwa [Option.map_some, show (⟨g, 0, none⟩ : Addr).add (k * 3) = ⟨g, k * 3, none⟩ from by unfold Addr.add; split <;> simp_all]
theorem cut_none {o : Option Addr} {cap k : Nat} (hc : o = none → cap = 0) : cutO o cap k = none → cap - k = 0 := by
  unfold cutO
  split
  · intro h; omega
  · cases o with
    | none => intro _; have := hc rfl; omega
    | some a => intro h; simp at h
/-- An entry is laid at its place. -/
theorem ins_at {L : List Ent} {e : Ent} {k : Nat} (h1 : ∀ x ∈ L.take k, x.a < e.a ∨ (x.a = e.a ∧ x.b < e.b)) (h2 : ∀ y, L[k]? = some y → ¬ (y.a < e.a ∨ (y.a = e.a ∧ y.b < e.b))) : insE e L = L.take k ++ e :: L.drop k := by
  have : insE e L = insE e (L.take k ++ L.drop k) := by rw [List.take_append_drop]
  rw [this, insE_right _ _ _ h1]
  congr 1
  cases hd : L.drop k with
  | nil => rfl
  | cons y r =>
    have hy : L[k]? = some y := by
      have := congrArg (fun l : List Ent => l[0]?) hd
      simpa [List.getElem?_drop] using this
    rw [insE, if_neg (h2 y hy)]

theorem own_drew {w : World} {B e size n : Nat} {v : Value} {xs : List Value} (h : w.ownsRow B e size v n xs) : w.drew.ownsRow B e size v n xs := ⟨h.1, h.2⟩
theorem alloc_lt (W : World) (o : Obj) : W.heap.size < (W.alloc o).heap.size := by simp
theorem alloc_gt (W : World) (o : Obj) : ¬ ((W.alloc o).heap.size ≤ W.heap.size) := by simp
theorem litRow (W : World) (B : Nat) (hB : B ≤ W.heap.size) (a b c : Value) : (W.alloc (.cells #[a, b, c] 67)).ownsRow B 67 3 (.slice (some ⟨W.heap.size, 0, none⟩) 1 1) 1 [a, b, c] :=
  World.ownsRow_lit (size := 3) W #[a, b, c] 1 hB (by unfold maxLen; omega) rfl
theorem own_src {w : World} {B n : Nat} {v : Value} {xs : List Value} (h : w.ownsRow B 67 3 v n xs) (h1 : ∀ c ∈ xs, c.oneCell' = true) : ∃ o c, v = .slice o n c ∧ Src w o n xs ∧ (o = none → c = 0) := by
  have h' := h
  rcases h.2 with ⟨rfl, rfl⟩ | ⟨g, cap, cur, rfl, _⟩
  · exact ⟨none, 0, rfl, ⟨h'.1, h1, fun _ => rfl, (fun ad ho => by cases ho)⟩, fun _ => rfl⟩
  · refine ⟨_, cap, rfl, ⟨h'.1, h1, (fun ho => by cases ho), fun ad ho j u hu => ?_⟩, (fun ho => by cases ho)⟩
    obtain rfl : ⟨g, 0, none⟩ = ad := Option.some.inj ho
    exact h'.cells rfl j u hu

theorem radd_close {w wc w3 : World} {rb k m2 pa n : Nat} {via : Int} {o3 : Option Addr} {c3 : Nat} {L : List Ent} {v0 : Value} (h03 : Below w.heap.size w wc) (hrl2 : rb < wc.heap.size) (hvar : wc.heap[rb]? = some (.cells #[v0] 29 (0, 0))) (j3 : Below wc.heap.size wc w3)
    (ho2 : w3.ownsRow wc.heap.size 67 3 (.slice o3 (k + (1 + m2)) c3) (k + (1 + m2)) (rcells (L.take k) ++ ([.int .u32 (pa : Int), .int .i64 (n : Int), .int .i64 via] ++ rcells (L.drop k)))) (hlen : k + (1 + m2) = (L.take k ++ ⟨pa, n, via⟩ :: L.drop k).length) :
    ∃ (o' : Option Addr) (g' cap' : Nat), RT (w3.setCell ⟨rb, 0, none⟩ (.slice o3 (k + (1 + m2)) c3)) rb o' g' cap' (L.take k ++ ⟨pa, n, via⟩ :: L.drop k) ∧ w.heap.size ≤ g' ∧ Kp [rb] w (w3.setCell ⟨rb, 0, none⟩ (.slice o3 (k + (1 + m2)) c3)) := by
  have hv3 := one_setCell (u := .slice o3 (k + (1 + m2)) c3) ((j3.block rb hrl2).trans hvar)
  have hown3 := ownsRow_setCell_below ho2 (a := ⟨rb, 0, none⟩) hrl2 (.slice o3 (k + (1 + m2)) c3)
  have e : rcells (L.take k) ++ ([.int .u32 (pa : Int), .int .i64 (n : Int), .int .i64 via] ++ rcells (L.drop k)) = rcells (L.take k ++ ⟨pa, n, via⟩ :: L.drop k) := by rw [rcells_append]; rfl
  have hk : Kp [rb] w (w3.setCell ⟨rb, 0, none⟩ (.slice o3 (k + (1 + m2)) c3)) := ((Kp.ofBelow (bs := [rb]) h03).trans (Kp.ofBelow (bs := []) j3) (by simp)).setCell (Or.inl (by simp)) _
  rw [e] at hown3
  generalize k + (1 + m2) = N at *
  subst hlen
  obtain ⟨o4, g4, c4, _, hRT, hg4⟩ := RT.mk' hv3 hown3 hrl2
  exact ⟨o4, g4, c4, hRT, Nat.le_trans h03.size hg4, hk⟩

set_option maxHeartbeats 40000000 in
set_option maxRecDepth 100000 in
theorem radd_any (rb g cap : Nat) (o : Option Addr) (L : List Ent) (pa : Nat) (pb via : Int) (w : World) (hpa : pa < 4294967296) (h : RT w rb o g cap L) (hG : Good L) :
    Calls Try.prog 12 #[.pointer (some ⟨rb, 0, none⟩), .agg #[.int .u32 pa, .int .i64 pb], .int .i64 via] w fun e w' => e = .returned (.int .i64 (addC L pa pb)) ∧ ∃ (o' : Option Addr) (g' cap' : Nat), RT w' rb o' g' cap' (addL L pa pb via) ∧ (g' = g ∨ w.heap.size ≤ g') ∧ Kp [rb] w w' := by
  have T := Lib.hid h
  have HC : Hid (∀ w', Calls Try.prog 26 #[.agg #[.int .u32 pa, .int .i64 pb]] w' fun e w'' => e = .returned (.int .i64 (chk pa pb)) ∧ Below w'.heap.size w' w'') := fun w' => rcheck_any pa pb w' hpa
  have h0 : Below w.heap.size w (w.alloc (.cells #[.int .u32 (pa : Int), .int .i64 pb] 34)) := (Below.refl _ _).alloc (Nat.le_refl _) _
  by_cases hc : chk pa pb = 0
  · rw [hc] at HC
    obtain ⟨h1, h2, h3⟩ := chk_ok hc
    obtain ⟨n, rfl⟩ := Int.eq_ofNat_of_zero_le h1
    have HT : Hid (∀ w', Below w.heap.size w w' → Calls Try.prog 27 #[.pointer (some ⟨rb, 0, none⟩), .agg #[.int .u32 pa, .int .i64 n]] w' fun e w'' => ((hasE pa n L = false ∧ e = .returned (.int .i64 (-1))) ∨ ∃ (k : Nat) (x : Ent), L[k]? = some x ∧ x.a = pa ∧ x.b = n ∧ e = .returned (.int .i64 k)) ∧ Below w'.heap.size w' w'') := fun w' hb => at_any pa n rb g cap o L w' (T.out.on hb) hG.many
    have HD : Hid (addC L pa n = if hasE pa n L = true then 8 else if L.length = 64 then 9 else 0) := by show _ = _; unfold addC; rw [hc]; simp
    have G := Lib.hid hG
    have hn64 := hG.many
    clear h hG hc h1 h2 h3
    go_enter Try.func12, Try.ntmps12
    go_wp2_with fail
    refine (HC.out _).mono ?_; rintro e w1 ⟨rfl, hb1⟩
    have bx := Lib.hid (box_keep hb1)
    obtain ⟨b0, b1, _, _⟩ := two_cells bx.out
    have h01 := h0.trans (hb1.mono (by simp))
    go_wp2_with fail
    refine (HT.out _ h01).mono ?_; rintro e w2 ⟨hr, hb2⟩
    have h02 := h01.trans (hb2.mono h01.size)
    have T2 := Lib.hid (T.out.on h02)
    have hcell := cell_of_one T2.out.var
    have hfree := free_of_one T2.out.var
    have hrl := T2.out.lt
    have bx2 := Lib.hid ((hb2.block _ (lt_of_block bx.out)).trans bx.out)
    have hbl := lt_of_block bx2.out
    rcases hr with ⟨hh, rfl⟩ | ⟨k, x, hkx, hxa, hxb, rfl⟩
    · by_cases h64 : L.length = 64
      · have HA : Hid (addC L pa n = 9) := by show _ = _; rw [HD.out, hh, h64]; simp
        have HB : Hid (addL L pa n via = L) := by show _ = _; unfold addL; rw [HA.out]; simp
        rw [h64] at hcell
        clear hh h64
        go_wp2_with fail
        go_ret
        exact ⟨ret_int HA.out.symm, o, g, cap, by rw [HB.out]; exact T2.out, Or.inl rfl, Kp.ofBelow h02⟩
      · have HA : Hid (addC L pa n = 0) := by show _ = _; rw [HD.out, hh]; simp [h64]
        have HB : Hid (addL L pa n via = insE ⟨pa, n, via⟩ L) := by show _ = _; unfold addL; rw [HA.out, if_pos rfl, Int.toNat_natCast]
        have h63 : ¬ (63 < (L.length : Int)) := by omega
        have hle := T2.out.le
        clear hh h64
        generalize hN : L.length = nl at *
        have HN := Lib.hid hN
        clear hN
        go_upto_block 0 with fail
        go_cut [8] from 9 (fun kv wc => ∃ k : Nat, k ≤ nl ∧ kv = .int .i64 k ∧ Hid (insE ⟨pa, n, via⟩ L = L.take k ++ ⟨pa, n, via⟩ :: L.drop k) ∧ Below w2.heap.size w2 wc)
        case first =>
          go_wp2_with fail
          go_loopw [8] (fun kv W => ∃ k : Nat, k ≤ nl ∧ kv = .int .i64 k ∧ Hid (∀ x ∈ L.take k, x.a < pa ∨ (x.a = pa ∧ x.b < n)) ∧ Below w2.heap.size w2 W) (fun kv _ => nl - (intOf kv).toNat)
          case atStart => exact ⟨0, Nat.zero_le _, rfl, (by intro x hx; cases hx), Below.refl _ _⟩
          case round =>
            obtain ⟨k, hk, rfl, HX, hbel⟩ := hrel
            have q0 := (hbel.cell (p := ⟨rb, 0, none⟩) hrl).trans hcell
            obtain ⟨p0, p1, _, _⟩ := two_cells ((hbel.block _ hbl).trans bx2.out)
            by_cases hlt : k < nl
            · obtain ⟨rfl, hgl, hcc⟩ := (T2.out.row.on hbel) (by rw [HN.out]; omega)
              obtain ⟨e, he⟩ : ∃ e, L[k]? = some e := ⟨L[k]'(by rw [HN.out]; exact hlt), List.getElem?_eq_getElem _⟩
              obtain ⟨c0, c1, c2⟩ := hcc k e he
              have HS0 : Hid ((e.a < pa ∨ (e.a = pa ∧ e.b < n)) → ∀ x ∈ L.take (k + 1), x.a < pa ∨ (x.a = pa ∧ x.b < n)) := fun hx y hy => by
                rw [take_next he, List.mem_append, List.mem_singleton] at hy
                rcases hy with hy | rfl
                · exact HX.out y hy
                · exact hx
              have HE0 : Hid (¬ (e.a < pa ∨ (e.a = pa ∧ e.b < n)) → insE ⟨pa, n, via⟩ L = L.take k ++ ⟨pa, n, via⟩ :: L.drop k) := fun hx => ins_at (e := ⟨pa, n, via⟩) HX.out fun y hy => by
                rw [he] at hy; obtain rfl := Option.some.inj hy; exact hx
              clear hcc he
              rcases (show e.a < pa ∨ (e.a = pa ∧ e.b < n) ∨ (e.a = pa ∧ ¬ e.b < n) ∨ (¬ e.a < pa ∧ e.a ≠ pa) by omega) with hx | hx | hx | hx
              · have HS := Lib.hid (HS0.out (Or.inl hx))
                have hxi : (e.a : Int) < (pa : Int) := by omega
                go_wp2_with fail
                go_quiet (fail)
                go_wp2_with fail
                go_roundw
                case rel => exact ⟨k + 1, by omega, by go_num, HS.out, below_drewN hbel _⟩
                case measure => simp [intOf]; omega
              · obtain ⟨rfl, hx2⟩ := hx
                have HS := Lib.hid (HS0.out (Or.inr ⟨rfl, hx2⟩))
                have hd1 : decide ((e.a : Int) < (e.a : Int)) = false := by simp
                have hx3 : (e.b : Int) < (n : Int) := by omega
                go_wp2_with fail
                go_quiet (fail)
                go_wp2_with fail
                go_roundw
                case rel => exact ⟨k + 1, by omega, by go_num, HS.out, below_drewN hbel _⟩
                case measure => simp [intOf]; omega
              · obtain ⟨rfl, hx2⟩ := hx
                have HE := Lib.hid (HE0.out (by omega))
                have hd1 : decide ((e.a : Int) < (e.a : Int)) = false := by simp
                have hd3 : decide ((e.b : Int) < (n : Int)) = false := by simp; omega
                go_wp2_with fail
                go_quiet (fail)
                go_wp2_with fail
                go_meet
                case rel => exact ⟨k, hk, rfl, HE.out, below_drewN hbel _⟩
              · obtain ⟨hx1, hx2⟩ := hx
                have HE := Lib.hid (HE0.out (by omega))
                have hd1 : decide ((e.a : Int) < (pa : Int)) = false := by simp; omega
                have hd2 : ((e.a : Int) == (pa : Int)) = false := by simp; omega
                go_wp2_with fail
                go_quiet (fail)
                go_wp2_with fail
                go_meet
                case rel => exact ⟨k, hk, rfl, HE.out, below_drewN hbel _⟩
            · obtain rfl : k = nl := by omega
              have hd0 : decide ((k : Int) < (k : Int)) = false := by simp
              have HE : Hid (insE ⟨pa, n, via⟩ L = L.take k ++ ⟨pa, n, via⟩ :: L.drop k) := ins_at (e := ⟨pa, n, via⟩) HX.out fun y hy => by
                have := (List.getElem?_eq_some_iff.1 hy).1
                have := HN.out
                omega
              go_wp2_with fail
              go_quiet (fail)
              go_wp2_with fail
              go_meet
              case rel => exact ⟨k, hk, rfl, HE.out, below_drewN hbel _⟩
        case rest =>
          obtain ⟨k, hk, rfl, HE, hbel⟩ := hcut
          have h03 := h02.trans (hbel.mono h02.size)
          have TA := Lib.hid (T2.out.on hbel)
          have q0 := (hbel.cell (p := ⟨rb, 0, none⟩) hrl).trans hcell
          have q1 := (hbel.frozen (p := ⟨rb, 0, none⟩) hrl).trans hfree
          have hrl2 := TA.out.lt
          have bx3 := Lib.hid ((hbel.block _ hbl).trans bx2.out)
          have hbl3 := lt_of_block bx3.out
          obtain ⟨p0, p1, _, _⟩ := two_cells bx3.out
          have hs1 : ∀ w', (Instr.slice 27 (.slice o nl cap) none (some (.int .i64 (k : Int))) none).run Try.prog w' = .ok (.slice o k cap) w' := fun w' => slice_to _ _ _ _ w' (by omega)
          have hs2 : ∀ w', (Instr.slice 27 (.slice o nl cap) (some (.int .i64 (k : Int))) none none).run Try.prog w' = .ok (.slice (cutO o cap k) (nl - k) (cap - k)) w' := fun w' => slice_rest o nl cap k w' hk
          have S1 : Hid (∀ W, Below wc.heap.size wc W → Src W o k (rcells (L.take k))) := fun W hb => (TA.out.src_take k (by rw [HN.out]; exact hk)).on hb
          have S2 : Hid (∀ W, Below wc.heap.size wc W → Src W (cutO o cap k) (nl - k) (rcells (L.drop k))) := fun W hb => by
            have := (TA.out.src_drop k (by rw [HN.out]; exact hk)).on hb
            rwa [HN.out] at this
          have CN : Hid (cutO o cap k = none → cap - k = 0) := cut_none TA.out.nc
          have HP : Hid (∀ W, Below wc.heap.size wc W → Calls Try.prog 28 #[.slice o k cap] W fun e wd => ∃ v, e = .returned v ∧ wd.ownsRow W.heap.size 67 3 v k (rcells (L.take k)) ∧ Below W.heap.size W wd ∧ Below wc.heap.size wc wd) := fun W hb => by
            refine Calls.mono (rcopy_any _ k cap _ W (S1.out W hb) TA.out.nc (by omega)) ?_
            rintro e wd ⟨v, rfl, h1, h2⟩
            exact ⟨v, rfl, h1, h2, hb.trans (h2.mono hb.size)⟩
          have O1 : Hid (∀ c ∈ [.int .u32 (pa : Int), .int .i64 (n : Int), .int .i64 via] ++ rcells (L.drop k), c.oneCell' = true) := fun c hc => by
            rcases List.mem_append.1 hc with hc | hc
            · simp at hc; rcases hc with rfl | rfl | rfl <;> rfl
            · exact rcells_one _ c hc
          have HLen : Hid (k + (1 + (nl - k)) = (L.take k ++ ⟨pa, n, via⟩ :: L.drop k).length) := by
            show _ = _
            rw [List.length_append, List.length_take, List.length_cons, List.length_drop, HN.out, Nat.min_eq_left hk]; omega
          obtain ⟨i0, hi0, hz0, hz1, hz2⟩ := info_parts info67
          generalize cutO o cap k = o2 at *
          generalize hm2 : nl - k = m2 at *
          have hm64 : k + (1 + m2) ≤ 64 := by omega
          clear hm2 hcell hfree b0 b1
          go_wp2_with fail
          go_region_law (first
            | (refine step_src _ rfl _ _ _ rfl wc.heap.size 67 i0 _ 24 Try.underlying27 hi0 hz0 hz1 hz2 rfl (.slice (some ⟨_, 0, none⟩) 1 1) o2 1 m2 _ [.int .u32 (pa : Int), .int .i64 (n : Int), .int .i64 via] (rcells (L.drop k)) rfl rfl ?_ ?_ CN.out ?_ ?_ ?_ ?_
               · first
                 | exact litRow wd _ jd.size _ _ _
                 | exact own_below (own_drew (litRow wc _ (Nat.le_refl _) _ _ _)) hbw
               · first
                 | exact S2.out _ (jd.alloc jd.size _)
                 | exact S2.out _ jd
               · unfold maxLen; omega
               · omega
               · first
                 | exact (jd.alloc jd.size _).size
                 | exact jd.size
               intro va wa hoa hga
               have ja : Below wc.heap.size wc wa := by
                 first
                 | exact (jd.alloc jd.size _).grown hga (jd.alloc jd.size _).size (fun j hj => by obtain rfl : _ = j := Option.some.inj hj; exact jd.size)
                 | exact jd.grown hga jd.size (fun j hj => by obtain rfl : _ = j := Option.some.inj hj; exact Nat.le_refl _)
               have ho1a : wa.ownsRow wc.heap.size 67 3 v1 k (rcells (L.take k)) := by
                 first
                 | exact (own_base ((ho1.alloc _).kept hga (Or.inr (fun hh => absurd (ho1.lt _ hh).2 (Nat.lt_irrefl _)))) (Nat.le_refl _))
                 | exact (own_base (ho1.kept hga (Or.inr (fun hh => absurd (show (wc.alloc _).heap.size ≤ wc.heap.size from (ho1.lt _ hh).1) (alloc_gt _ _)))) (Nat.le_of_lt (alloc_lt _ _)))
               obtain ⟨oa, ca, rfl, sa, na⟩ := own_src hoa O1.out)
            | (refine step_src _ rfl _ _ _ rfl wc.heap.size 67 i0 _ 24 Try.underlying27 hi0 hz0 hz1 hz2 rfl v1 oa k (1 + m2) ca (rcells (L.take k)) _ rfl rfl ho1a sa na ?_ ?_ ja.size ?_
               · unfold maxLen; omega
               · omega
               intro v2 w3 ho2 hg2
               have j3 : Below wc.heap.size wc w3 := ja.grown hg2 ja.size (fun j hj => (ho1a.lt j hj).1)
               obtain ⟨o3, c3, rfl⟩ := own_form ho2
               have e0 := (j3.cell (p := ⟨rb, 0, none⟩) hrl2).trans q0
               have e1 := (j3.frozen (p := ⟨rb, 0, none⟩) hrl2).trans q1)
            | (go_simp; go_at_call 28; refine (HP.out _ ?_).mono ?_
               · first
                 | exact (Below.refl _ _).drew
                 | exact ((Below.refl _ _).alloc (Nat.le_refl _) _).drew
               rintro e wd ⟨v1, rfl, ho1, hbw, jd⟩
               have d0 := (jd.cell (p := ⟨rb, 0, none⟩) hrl2).trans q0
               have d1 := (jd.cell (p := ⟨w.heap.size, 0, none⟩) hbl3).trans p0
               have d2 := (jd.cell (p := ⟨w.heap.size, 1, none⟩) hbl3).trans p1
               have z1 : rb < wd.heap.size := Nat.lt_of_lt_of_le hrl2 jd.size
               have z2 : w.heap.size < wd.heap.size := Nat.lt_of_lt_of_le hbl3 jd.size))
          all_goals
            go_wp2_with fail
            go_ret
            obtain ⟨o4, g4, c4, hr4, hg4, hk4⟩ := radd_close h03 hrl2 TA.out.var j3 ho2 HLen.out
            exact ⟨ret_int HA.out.symm, o4, g4, c4, by rw [HB.out, HE.out]; exact hr4, Or.inr hg4, hk4⟩
    · have hxm : x ∈ L := List.mem_of_getElem? hkx
      have HA : Hid (addC L pa n = 8) := by show _ = _; rw [HD.out, ← hxa, ← hxb, hasE_mem hxm]; simp
      have HB : Hid (addL L pa n via = L) := by show _ = _; unfold addL; rw [HA.out]; simp
      clear hkx hxa hxb hxm
      go_wp2_with fail
      go_ret
      exact ⟨ret_int HA.out.symm, o, g, cap, by rw [HB.out]; exact T2.out, Or.inl rfl, Kp.ofBelow h02⟩
  · have HA : Hid (addC L pa pb = chk pa pb) := by show _ = _; unfold addC; rw [if_pos hc]
    have HB : Hid (addL L pa pb via = L) := by show _ = _; unfold addL; rw [HA.out, if_neg hc]
    have hz : (chk pa pb != 0) = true := by simpa using hc
    generalize chk pa pb = C at *
    clear hc h
    go_enter Try.func12, Try.ntmps12
    go_wp2_with fail
    refine (HC.out _).mono ?_; rintro e w1 ⟨rfl, hb1⟩
    have h01 := h0.trans (hb1.mono (by simp))
    go_wp2_with fail
    go_ret
    exact ⟨ret_int HA.out.symm, o, g, cap, by rw [HB.out]; exact T.out.on h01, Or.inl rfl, Kp.ofBelow h01⟩
end Go.Proofs.Ytchmfbfijglokaa
