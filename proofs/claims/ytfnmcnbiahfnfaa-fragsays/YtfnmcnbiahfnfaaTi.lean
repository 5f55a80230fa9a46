/-
  Contract of In (package frag).
-/
import Derived.Test.YtfnmcnbiahfnfaaTp
import Derived.Test.YtfnmcnbiahfnfaaEq
namespace Go.Proofs.Ytfnmcnbiahfnfaa
open Go.RowKit Go.Maps
set_option linter.unusedVariables false
set_option linter.unusedSimpArgs false

theorem yieldsIf_build {ops : Array Oper} {S : World → Prop} {op : Oper} {a : Act} (hw : Region.wanted op (yielded ops a.tmps) = true) (ho : op.op = .build 79 #[(0, .const (.int .i64 30))]) : YieldsIf Try.prog ops S op (.agg gz) a :=
  .inl ⟨hw, fun w hw' => by
    have e := run_build_gm w
    unfold execOp
    simp only [ho, Sem.run_bind, Sem.run_pure, Result.andThen_ok]
    simp only [List.map_toArray, List.map_cons, List.map_nil, Act.eval, e, Result.andThen_ok]⟩
theorem run_box_gm (w : World) : (Instr.box 79 (.agg gz)).run Try.prog w = .ok (.pointer (some ⟨w.heap.size, 0, none⟩)) (w.alloc (.cells gz 79)) := by
  simp [Instr.box, newVar, Value.cells, go_sem]
theorem wp_box_gm {op : Oper} {a : Act} {w : World} {K : Act → World → Prop} {Q : Exit → Act → World → Prop} {x : Operand} (ho : op.op = .box 79 x) (hx : a.eval x = .agg gz)
    (h : K (a.put op.dst (.pointer (some ⟨w.heap.size, 0, none⟩))) (w.alloc (.cells gz 79))) : op.wp Try.prog a w K Q := by
  unfold Oper.wp execOp
  simp only [ho, hx, Sem.run_bind, run_box_gm w, Result.andThen_ok, Sem.run_pure]
  exact h
theorem wp_update_run {op : Oper} {a : Act} {w w' : World} {K : Act → World → Prop} {Q : Exit → Act → World → Prop} {t : TypeId} {m x v : Operand} {mv kv vv : Value} (ho : op.op = .mapUpdate t m x v) (hm : a.eval m = mv) (hx : a.eval x = kv) (hv : a.eval v = vv)
    (hr : (Instr.mapUpdate t mv kv vv).run Try.prog w = .ok () w') (h : K (a.put op.dst undef) w') : op.wp Try.prog a w K Q := by
  unfold Oper.wp execOp
  simp only [ho, hm, hx, hv, Sem.run_bind, hr, Result.andThen_ok, Sem.run_pure]
  exact h

/-- What is open, by its names. -/
def abs (A : List Ent) : List (Nm × Gm) := A.map fun e => (e.n, e.g)
def delB (B : List (Nm × Gm)) (n : Nm) : List (Nm × Gm) := B.filter fun x => decide (x.1 ≠ n)
def updB (B : List (Nm × Gm)) (n : Nm) (g : Gm) : List (Nm × Gm) := B.map fun x => if x.1 = n then (x.1, g) else x
def putVm (n : Nm) (g : Gm) (p : Pk) : Pk × Bool × Int := if pErr g p = true then (pz, false, 4) else if gwhole (gadd g p) = true then (gpk (gadd g p) n, true, 0) else (pz, false, 0)
def putB (B : List (Nm × Gm)) (n : Nm) (g : Gm) (p : Pk) : List (Nm × Gm) := if pErr g p = true then delB B n else if gwhole (gadd g p) = true then delB B n else updB B n (gadd g p)
/-- What is open by a name. -/
def lookB : List (Nm × Gm) → Nm → Option Gm
  | [], _ => none
  | x :: r, n => if x.1 = n then some x.2 else lookB r n
/-- What In answers, and leaves. -/
def inM (B : List (Nm × Gm)) (p : Pk) : (Pk × Bool × Int) × List (Nm × Gm) :=
  if chk p ≠ 0 then ((pz, false, chk p), B)
  else if p.more = false ∧ p.off = 0 then ((p, true, 0), B)
  else if ffl p ≠ 0 then ((pz, false, ffl p), B)
  else match lookB B (nmOf p) with
    | some g => (putVm (nmOf p) g p, putB B (nmOf p) g p)
    | none => if B.length = 8 then ((pz, false, 9), B) else (putVm (nmOf p) gm0 p, putB (B ++ [(nmOf p, gm0)]) (nmOf p) gm0 p)
theorem abs_del (A : List Ent) (n : Nm) : abs (delA A n) = delB (abs A) n := by
  unfold abs delA delB; rw [List.filter_map]; rfl
theorem abs_upd (A : List Ent) (n : Nm) (g : Gm) : abs (updA A n g) = updB (abs A) n g := by
  unfold abs updA updB; rw [List.map_map, List.map_map]
  refine List.map_congr_left fun e he => ?_
  show ((if e.n = n then { e with g := g } else e : Ent).n, (if e.n = n then { e with g := g } else e : Ent).g) = if e.n = n then (e.n, g) else (e.n, e.g)
  split <;> rfl
theorem abs_put (A : List Ent) (e : Ent) (p : Pk) : abs (putA A e p) = putB (abs A) e.n e.g p := by
  unfold putA putB
  split
  · exact abs_del A e.n
  · split
    · exact abs_del A e.n
    · exact abs_upd A e.n _
theorem look_some {A : List Ent} {n : Nm} {g : Gm} (h : lookB (abs A) n = some g) : ∃ e ∈ A, e.n = n ∧ e.g = g := by
  induction A with
  | nil => cases h
  | cons a A ih =>
    have h : (if a.n = n then some a.g else lookB (abs A) n) = some g := h
    split at h
    · exact ⟨a, List.mem_cons_self, by assumption, Option.some.inj h⟩
    · obtain ⟨e, he, h1⟩ := ih h
      exact ⟨e, List.mem_cons_of_mem _ he, h1⟩
theorem look_none {A : List Ent} {n : Nm} (h : lookB (abs A) n = none) : ∀ e ∈ A, e.n ≠ n := by
  induction A with
  | nil => intro e he; cases he
  | cons a A ih =>
    have h : (if a.n = n then some a.g else lookB (abs A) n) = none := h
    split at h
    · cases h
    · intro e he
      rcases List.mem_cons.1 he with rfl | he
      · assumption
      · exact ih h e he
theorem blks_put {A : List Ent} {e : Ent} {p : Pk} : ∀ k ∈ blks (putA A e p), k ∈ blks A := fun k hk => by
  unfold putA at hk
  split at hk
  · exact blks_delA k hk
  · split at hk
    · exact blks_delA k hk
    · rwa [blks_updA] at hk
/-- What a call of In says. -/
def InPost (w : World) (tb mb : Nat) (A : List Ent) (p : Pk) (ex : Ending) (w' : World) : Prop :=
  ∃ A', ex = .returned (.tuple #[pv (inM (abs A) p).1.1, .bool (inM (abs A) p).1.2.1, .int .i64 (inM (abs A) p).1.2.2]) ∧ Tab w' tb mb A' ∧ abs A' = (inM (abs A) p).2 ∧ Kp (mb :: blks A) w w' ∧ ∀ k ∈ blks A', k ∈ blks A ∨ w.heap.size ≤ k

set_option maxHeartbeats 8000000 in
set_option maxRecDepth 100000 in
theorem in_any (tb mb : Nat) (A : List Ent) (p : Pk) (w : World) (h : Tab w tb mb A) (f : Fits p) :
    Calls Try.prog 16 #[.pointer (some ⟨tb, 0, none⟩), pv p] w (InPost w tb mb A p) := by
  have hw2 : Below w.heap.size w ((w.alloc (.cells (pc p) 24)).alloc (.cells pzc 24)) := ((Below.refl _ _).alloc (Nat.le_refl _) _).alloc (by simp) _
  have T0 := Lib.hid (h.on hw2)
  have K0 : Hid (Kp (mb :: blks A) w ((w.alloc (.cells (pc p) 24)).alloc (.cells pzc 24))) := Kp.ofBelow hw2
  have P0 := Lib.hid ((PB.new w p).alloc (.cells pzc 24))
  have Z0 : Hid (PB (w.heap.size + 1) pz ((w.alloc (.cells (pc p) 24)).alloc (.cells pzc 24))) := by
    have := PB.newz (w.alloc (.cells (pc p) 24))
    rwa [show (w.alloc (.cells (pc p) 24)).heap.size = w.heap.size + 1 from by simp] at this
  have tlt := h.lt
  have mlt := h.mlt
  have blt := Lib.hid h.blt
  have hwf := Lib.hid (nmOf_wf f)
  have hbody : p.body.size ≤ 140737488355328 ∨ chk p ≠ 0 := by
    by_cases hk : chk p = 0
    · left; have := (chk_zero hk).2.2.2.2; omega
    · exact Or.inr hk
  have HU := Lib.hid Try.underlying24
  have HI : Hid ((Try.prog.info? 24).map (·.size) = some 9) := info24
  have HC : Hid (∀ w', Calls Try.prog 27 #[pv p] w' fun e w'' => e = .returned (.int .i64 (chk p)) ∧ Below w'.heap.size w' w'') := fun w' => pchk_any p w'
  have HM : Hid (inM (abs A) p = inM (abs A) p) := rfl
  have HMd : Hid (inM (abs A) p = if chk p ≠ 0 then ((pz, false, chk p), abs A) else if p.more = false ∧ p.off = 0 then ((p, true, 0), abs A) else if ffl p ≠ 0 then ((pz, false, ffl p), abs A) else match lookB (abs A) (nmOf p) with | some g => (putVm (nmOf p) g p, putB (abs A) (nmOf p) g p) | none => if (abs A).length = 8 then ((pz, false, 9), abs A) else (putVm (nmOf p) gm0 p, putB (abs A ++ [(nmOf p, gm0)]) (nmOf p) gm0 p)) := rfl
  have HPost : Hid (∀ ex w', InPost w tb mb A p ex w' = ∃ A', ex = .returned (.tuple #[pv (inM (abs A) p).1.1, .bool (inM (abs A) p).1.2.1, .int .i64 (inM (abs A) p).1.2.2]) ∧ Tab w' tb mb A' ∧ abs A' = (inM (abs A) p).2 ∧ Kp (mb :: blks A) w w' ∧ ∀ k ∈ blks A', k ∈ blks A ∨ w.heap.size ≤ k) := fun _ _ => rfl
  generalize InPost w tb mb A p = QP at *
  generalize hMM : inM (abs A) p = MM at *
  clear hMM HM
  by_cases hk : chk p = 0
  · have hbs := (chk_zero hk).2.2.2.2
    rw [if_neg (by simp [hk])] at HMd
    rw [hk] at HC
    have HFf : Hid (∀ w', Calls Try.prog 28 #[pv p] w' fun e w'' => e = .returned (.int .i64 (ffl p)) ∧ Below w'.heap.size w' w'') := fun w' => fragFault_any p w' hk
    have HNm : Hid (∀ w', Calls Try.prog 29 #[pv p] w' fun e w'' => e = .returned (nv (nmOf p)) ∧ Below w'.heap.size w' w'') := fun w' => nameOf_any p w'
    have HPt : Hid (fend p ≤ 4000 → ∀ (A : List Ent) (e : Ent) w', Tab w' tb mb A → e ∈ A → Calls Try.prog 30 #[.pointer (some ⟨tb, 0, none⟩), nv e.n, pv p] w' fun ex w'' => ex = .returned (.tuple #[pv (putV e p).1, .bool (putV e p).2.1, .int .i64 (putV e p).2.2]) ∧ Tab w'' tb mb (putA A e p) ∧ Kp [mb, e.b] w' w'') := fun h4 A e w' hT he => put_any tb mb A e p w' hT he hk h4
    have HFd : Hid (ffl p = 0 → fend p ≤ 4000) := fun h0 => by
      unfold ffl at h0
      split at h0
      · cases h0
      · split at h0
        · cases h0
        · omega
    have HPc : Hid (p.off = 0 → p.more = false → ∀ w', Calls Try.prog 23 #[pv p, .int .i64 0, .int .i64 (p.body.size : Int)] w' fun e w'' => e = .returned (pv p) ∧ Below w'.heap.size w' w'') := fun h1 h2 w' => by
      have := piece_any p 0 p.body.size w' (by omega) (by omega) (by omega)
      rwa [pce_whole p h1 h2] at this
    clear hbody hk
    go_enter Try.func16, Try.ntmps16
    go_wp2_with (refine wpList_load_mid rfl 24 _ rfl _ _ rfl (pcl p) _ P0.out.range HU.out rfl HI.out ?_)
    refine (HC.out _).mono ?_; rintro ex w1 ⟨rfl, hb1⟩
    have T1 := Lib.hid (T0.out.on hb1)
    have Z1 := Lib.hid (Z0.out.keep hb1)
    have P1 := Lib.hid (P0.out.keep hb1)
    have K1 := Lib.hid (K0.out.then hb1)
    have x6 := P1.out.c6
    have x7 := P1.out.c7
    have x8 := P1.out.c8
    clear hb1 T0 Z0 P0 K0 hw2
    by_cases hw : p.more = false ∧ p.off = 0
    · obtain ⟨hm, ho⟩ := hw
      have hM : MM = ((p, true, 0), abs A) := by rw [HMd.out, if_pos ⟨hm, ho⟩]
      subst hM
      have HPc := Lib.hid (HPc.out ho hm)
      rw [hm] at x6
      rw [ho] at x7
      clear hm ho HMd
      go_wp2_with (refine wpList_load_mid rfl 24 _ rfl _ _ rfl (pcl p) _ P1.out.range HU.out rfl HI.out ?_)
      refine (HPc.out _).mono ?_; rintro ex w2 ⟨rfl, hb2⟩
      have T2 := Lib.hid (T1.out.on hb2)
      have Z2 := Lib.hid (Z1.out.keep hb2)
      have K2 := Lib.hid (K1.out.then hb2)
      go_wp2_with (refine wpList_store_mid rfl _ _ _ rfl _ _ (pc p) rfl rfl Z2.out.there info24 (pc_one p) ?_)
      refine bodyPost_ret (v := .tuple #[pv p, .bool true, .int .i64 0]) (by simp only [results, Try.results16, Act.put, asAddr]; simp [told w2 (w.heap.size + 1) pz p Z2.out]) rfl ?_
      rw [HPost.out]
      exact ⟨A, rfl, T2.out.setFar tlt mlt blt.out (by omega) _ _, rfl, Kp.setCells _ _ K2.out (Or.inr (by omega)), fun k hk => Or.inl hk⟩
    · rw [if_neg hw] at HMd
      have hcase : (p.more = true) ∨ (p.more = false ∧ (p.off == 0) = false) := by
        cases hm : p.more with
        | true => exact Or.inl rfl
        | false => exact Or.inr ⟨rfl, by rw [beq_eq_false_iff_ne]; exact fun ho => hw ⟨hm, ho⟩⟩
      clear hw
      generalize hff : ffl p = FF at *
      clear hff
      rcases hcase with hm | ⟨hm, ho⟩
      · rw [hm] at x6
        clear hm
        go_wp2_with (refine wpList_load_mid rfl 24 _ rfl _ _ rfl (pcl p) _ P1.out.range HU.out rfl HI.out ?_)
        refine (HFf.out _).mono ?_; rintro ex w2 ⟨rfl, hb2⟩
        have T2 := Lib.hid (T1.out.on hb2)
        have Z2 := Lib.hid (Z1.out.keep hb2)
        have P2 := Lib.hid (P1.out.keep hb2)
        have K2 := Lib.hid (K1.out.then hb2)
        clear hb2 T1 Z1 P1 K1 x6 x7 x8
        by_cases hf : FF = 0
        · have h4 := HFd.out hf
          have HPt := Lib.hid (HPt.out h4)
          subst hf
          rw [if_neg (by simp)] at HMd
          go_wp2_with (refine wpList_load_mid rfl 24 _ rfl _ _ rfl (pcl p) _ P2.out.range HU.out rfl HI.out ?_)
          refine (HNm.out _).mono ?_; rintro ex w5 ⟨rfl, hb5⟩
          have h5 : Below w5.heap.size w5 (w5.alloc (.cells (nc (nmOf p)) 74)) := (Below.refl _ _).alloc (Nat.le_refl _) _
          have T6 := Lib.hid ((T2.out.on hb5).on h5)
          have Z6 := Lib.hid ((Z2.out.keep hb5).alloc (.cells (nc (nmOf p)) 74))
          have P6 := Lib.hid ((P2.out.keep hb5).alloc (.cells (nc (nmOf p)) 74))
          have K6 := Lib.hid ((K2.out.then hb5).alloc (.cells (nc (nmOf p)) 74))
          have N6 := Lib.hid (NB.new w5 (nmOf p))
          have h56 : w.heap.size ≤ w5.heap.size := Nat.le_trans K2.out.size hb5.size
          clear hb5 h5 T2 Z2 P2 K2
          go_wp2_with fail
          have ct := T6.out.cell
          have n0 := N6.out.c0
          have n1 := N6.out.c1
          have n2 := N6.out.c2
          have n3 := N6.out.c3
          generalize w5.alloc (.cells (nc (nmOf p)) 74) = w6 at *
          cases hlk : lookB (abs A) (nmOf p) with
          | some g =>
            obtain ⟨e, he, hen, heg⟩ := look_some hlk
            have hM : MM = (putVm (nmOf p) g p, putB (abs A) (nmOf p) g p) := by rw [HMd.out, hlk]
            subst hM
            have HPt := Lib.hid (HPt.out A e)
            have hl := T6.out.drew.look he
            rw [hen] at hl HPt
            have HAb : Hid (abs (putA A e p) = putB (abs A) (nmOf p) g p) := by show _ = _; rw [abs_put, hen, heg]
            have HVv : Hid (putV e p = putVm (nmOf p) g p) := by show _ = _; unfold putV putVm; rw [hen, heg]
            clear hlk HMd
            rw [HVv.out] at HPt
            generalize putVm (nmOf p) g p = V at *
            generalize putB (abs A) (nmOf p) g p = BB at *
            go_region
            have T7 := Lib.hid T6.out.drew
            have Z7 : Hid (PB (w.heap.size + 1) pz w6.drew) := Z6.out
            have P7 : Hid (PB w.heap.size p w6.drew) := P6.out
            have N7 : Hid (NB w5.heap.size (nmOf p) w6.drew) := N6.out
            have K7 := Lib.hid K6.out.drew
            clear ct n0 n1 n2 n3 hl
            have n0 := N7.out.c0
            have n1 := N7.out.c1
            have n2 := N7.out.c2
            have n3 := N7.out.c3
            generalize w6.drew = w7 at *
            go_wp2_with (refine wpList_load_mid rfl 24 _ rfl _ _ rfl (pcl p) _ P7.out.range HU.out rfl HI.out ?_)
            refine (HPt.out _ T7.out he).mono ?_; rintro ex w8 ⟨rfl, hT8, hK8⟩
            have T8 := Lib.hid hT8
            have eb := blt.out e.b (mem_blks.2 ⟨e, he, rfl⟩)
            have Z8 : Hid (PB (w.heap.size + 1) pz w8) := (hK8.block _ Z7.out.lt (by simp; omega)).trans Z7.out
            have K8 : Hid (Kp (mb :: blks A) w w8) := K7.out.trans hK8 (by simp; exact Or.inl (Or.inr (mem_blks.2 ⟨e, he, rfl⟩)))
            clear hT8 hK8 n0 n1 n2 n3
            go_wp2_with (refine wpList_store_mid rfl _ _ _ rfl _ _ (pc V.1) rfl rfl Z8.out.there info24 (pc_one V.1) ?_)
            refine bodyPost_ret (v := .tuple #[pv V.1, .bool V.2.1, .int .i64 V.2.2]) (by simp only [results, Try.results16, Act.put, asAddr]; simp [told w8 (w.heap.size + 1) pz V.1 Z8.out]) rfl ?_
            rw [HPost.out]
            exact ⟨putA A e p, rfl, T8.out.setFar tlt mlt (fun j hj => blt.out j (blks_put j hj)) (by omega) _ _, HAb.out, Kp.setCells _ _ K8.out (Or.inr (by omega)), fun k hk => Or.inl (blks_put k hk)⟩
          | none =>
            have hmiss := look_none hlk
            have hl := T6.out.drew.miss hwf.out hmiss
            have hlen := fun ty => T6.out.drew.len ty
            have habl : (abs A).length = A.length := by simp [abs]
            rw [hlk] at HMd
            have HMd : Hid (MM = if (abs A).length = 8 then ((pz, false, 9), abs A) else (putVm (nmOf p) gm0 p, putB (abs A ++ [(nmOf p, gm0)]) (nmOf p) gm0 p)) := HMd.out
            rw [habl] at HMd
            clear hlk
            by_cases h8 : A.length = 8
            · have hM : MM = ((pz, false, 9), abs A) := by rw [HMd.out, if_pos h8]
              subst hM
              rw [h8] at hlen
              have H8 := Lib.hid h8
              clear HMd h8 habl
              go_region
              have T7 := Lib.hid T6.out.drew
              have Z7 : Hid (PB (w.heap.size + 1) pz w6.drew) := Z6.out
              have K7 := Lib.hid K6.out.drew
              have ct7 := T7.out.cell
              clear ct n0 n1 n2 n3 hl
              generalize w6.drew = w7 at *
              go_wp2_with (refine wpList_store_mid rfl _ _ _ rfl _ _ (pc pz) rfl rfl Z7.out.there info24 (pc_one pz) ?_)
              refine bodyPost_ret (v := .tuple #[pv pz, .bool false, .int .i64 9]) (by simp only [results, Try.results16, Act.put, asAddr]; simp [told w7 (w.heap.size + 1) pz pz Z7.out]) rfl ?_
              rw [HPost.out]
              exact ⟨A, rfl, T7.out.setFar tlt mlt blt.out (by omega) _ _, rfl, Kp.setCells _ _ K7.out (Or.inr (by omega)), fun k hk => Or.inl hk⟩
            · have hle := T6.out.le
              have hM : MM = (putVm (nmOf p) gm0 p, putB (abs A ++ [(nmOf p, gm0)]) (nmOf p) gm0 p) := by rw [HMd.out, if_neg h8]
              subst hM
              have h8i : ((A.length : Int) == 8) = false := by rw [beq_eq_false_iff_ne]; omega
              have hlt8 : A.length < 8 := by omega
              have HMiss := Lib.hid hmiss
              clear HMd h8 habl hmiss
              go_region
              have T7 := Lib.hid T6.out.drew
              have Z7 : Hid (PB (w.heap.size + 1) pz w6.drew) := Z6.out
              have P7 : Hid (PB w.heap.size p w6.drew) := P6.out
              have N7 : Hid (NB w5.heap.size (nmOf p) w6.drew) := N6.out
              have K7 := Lib.hid K6.out.drew
              have ct7 := T7.out.cell
              clear ct n0 n1 n2 n3 hl
              generalize w6.drew = w7 at *
              go_wp2_with fail
              have T8 := Lib.hid (T7.out.drew.alloc (.cells gz 79))
              have G8 := Lib.hid (GB.new w7.drew)
              obtain ⟨w9, hupd, hT9, hK9⟩ := T8.out.put hwf.out HMiss.out hlt8 G8.out gm0_inv (fun hm => by have := T7.out.blt _ hm; exact Nat.lt_irrefl _ this)
              have mlt7 := T7.out.mlt
              have tlt7 := T7.out.lt
              have n7lt := N7.out.lt
              have z7lt := Z7.out.lt
              have p7lt := P7.out.lt
              have N8 : Hid (NB w5.heap.size (nmOf p) (w7.drew.alloc (.cells gz 79))) := NB.alloc (W := w7.drew) N7.out (.cells gz 79)
              have P8 : Hid (PB w.heap.size p (w7.drew.alloc (.cells gz 79))) := P7.out.drew.alloc (.cells gz 79)
              have Z8 : Hid (PB (w.heap.size + 1) pz (w7.drew.alloc (.cells gz 79))) := Z7.out.drew.alloc (.cells gz 79)
              have N9 : Hid (NB w5.heap.size (nmOf p) w9) := N8.out.kp hK9 (by simp; omega)
              have P9 : Hid (PB w.heap.size p w9) := (hK9.block _ P8.out.lt (by simp; omega)).trans P8.out
              have Z9 : Hid (PB (w.heap.size + 1) pz w9) := (hK9.block _ Z8.out.lt (by simp; omega)).trans Z8.out
              have T9 := Lib.hid hT9
              have K9 : Hid (Kp (mb :: blks A) w w9) := (K7.out.drew.alloc (.cells gz 79)).trans hK9 (by simp)
              have HS6 : Hid ((w7.drew.alloc (.cells gz 79)).cell? ⟨tb, 0, none⟩ = some (.map (some mb)) ∧ Hid (NB w5.heap.size (nmOf p) (w7.drew.alloc (.cells gz 79)))) := ⟨T8.out.cell, N8⟩
              have HS7 : Hid (w9.cell? ⟨tb, 0, none⟩ = some (.map (some mb)) ∧ Hid (NB w5.heap.size (nmOf p) w9)) := ⟨T9.out.cell, N9⟩
              refine wp_region_held_drew (S := fun w' => w'.cell? ⟨tb, 0, none⟩ = some (.map (some mb)) ∧ Hid (NB w5.heap.size (nmOf p) w')) (by kernel_rfl) ⟨T7.out.drew.cell, N7.out⟩ (fun hHeld => ?_)
              refine takeH (i := 0) (d := some 51) (v := ?_) rfl rfl (by kernel_rfl) (by kernel_rfl) (by kernel_rfl) (fun _ _ _ h => h) (Or.inl ⟨by rfl, ?_⟩) hHeld ?_
              rotate_left
              · intro w' hSw; (try dsimp only at hSw); go_simp; try with_reducible rfl
              simp only [Act.put, List.setIfInBounds_toArray, List.set_cons_zero, List.set_cons_succ]
              refine takeH (i := 1) (d := some 52) (v := ?_) rfl rfl (by kernel_rfl) (by kernel_rfl) (by kernel_rfl) (fun _ _ _ h => h) (Or.inl ⟨by rfl, ?_⟩) hHeld ?_
              rotate_left
              · intro w' hSw; (try dsimp only at hSw); go_simp; try with_reducible rfl
              simp only [Act.put, List.setIfInBounds_toArray, List.set_cons_zero, List.set_cons_succ]
              refine takeH (i := 2) (d := some 53) (v := ?_) rfl rfl (by kernel_rfl) (by kernel_rfl) (by kernel_rfl) (fun _ _ _ h => h) (Or.inl ⟨by rfl, ?_⟩) hHeld ?_
              rotate_left
              · intro w' hSw; (try dsimp only at hSw); go_simp; try with_reducible rfl
              simp only [Act.put, List.setIfInBounds_toArray, List.set_cons_zero, List.set_cons_succ]
              refine takeH (i := 3) (d := some 54) (v := ?_) rfl rfl (by kernel_rfl) (by kernel_rfl) (by kernel_rfl) (fun _ _ _ h => h) (Or.inl ⟨by rfl, ?_⟩) hHeld ?_
              rotate_left
              · intro w' hSw; (try dsimp only at hSw); obtain ⟨c1, c2⟩ := hSw; go_simp; try with_reducible rfl
              simp only [Act.put, List.setIfInBounds_toArray, List.set_cons_zero, List.set_cons_succ]
              refine takeH (i := 4) (d := some 55) (v := ?_) rfl rfl (by kernel_rfl) (by kernel_rfl) (by kernel_rfl) (fun _ _ _ h => h) (Or.inl ⟨by rfl, ?_⟩) hHeld ?_
              rotate_left
              · intro w' hSw; (try dsimp only at hSw); obtain ⟨c1, c2⟩ := hSw; have n0 := c2.out.c0; have n1 := c2.out.c1; have n2 := c2.out.c2; have n3 := c2.out.c3; go_simp; try with_reducible rfl
              simp only [Act.put, List.setIfInBounds_toArray, List.set_cons_zero, List.set_cons_succ]
              refine takeH (i := 5) (d := some 56) rfl rfl (by kernel_rfl) (by kernel_rfl) (by kernel_rfl) (fun _ _ _ h => h) (yieldsIf_build (by rfl) rfl) hHeld ?_
              simp only [Act.put, List.setIfInBounds_toArray, List.set_cons_zero, List.set_cons_succ]
              refine wpAnyH_ready (rs := [6]) (by kernel_rfl) (by simp) ?_
              refine AllReadyH.cons rfl (fun K hK => ?_) AllReadyH.nil
              refine wp_box_gm rfl rfl ?_
              clear hHeld
              refine hK.out _ _ HS6.out (fun hHeld => ?_)
              clear hK K
              try simp only [Act.put, List.setIfInBounds_toArray, List.set_cons_zero, List.set_cons_succ]
              refine wpAnyH_ready (rs := [7]) (by kernel_rfl) (by simp) ?_
              refine AllReadyH.cons rfl (fun K hK => ?_) AllReadyH.nil
              refine wp_update_run rfl rfl rfl rfl hupd ?_
              clear hHeld
              refine hK.out _ _ HS7.out (fun hHeld => ?_)
              clear hK K
              try simp only [Act.put, List.setIfInBounds_toArray, List.set_cons_zero, List.set_cons_succ]
              refine wpAnyH_done (by kernel_rfl) ?_ _
              have HPt := Lib.hid (HPt.out (A ++ [⟨nmOf p, w7.heap.size, gm0⟩]) ⟨nmOf p, w7.heap.size, gm0⟩)
              have HAb : Hid (abs (putA (A ++ [⟨nmOf p, w7.heap.size, gm0⟩]) ⟨nmOf p, w7.heap.size, gm0⟩ p) = putB (abs A ++ [(nmOf p, gm0)]) (nmOf p) gm0 p) := by show _ = _; rw [abs_put]; unfold abs; rw [List.map_append]; rfl
              have HVv : Hid (putV ⟨nmOf p, w7.heap.size, gm0⟩ p = putVm (nmOf p) gm0 p) := rfl
              have HBp : Hid (∀ k ∈ blks (putA (A ++ [⟨nmOf p, w7.heap.size, gm0⟩]) ⟨nmOf p, w7.heap.size, gm0⟩ p), k ∈ blks A ∨ k = w7.heap.size) := fun k hk => by
                have := blks_put k hk
                unfold blks at this
                rw [List.map_append, List.mem_append] at this
                rcases this with h1 | h1
                · exact Or.inl h1
                · right; simpa using h1
              rw [HVv.out] at HPt
              generalize putVm (nmOf p) gm0 p = V at *
              generalize putB (abs A ++ [(nmOf p, gm0)]) (nmOf p) gm0 p = BB at *
              clear ct7 hupd HS6 HS7 T8 G8 hT9 hK9
              have n0 := N9.out.c0
              have n1 := N9.out.c1
              have n2 := N9.out.c2
              have n3 := N9.out.c3
              go_wp2_with (refine wpList_load_mid rfl 24 _ rfl _ _ rfl (pcl p) _ P9.out.range HU.out rfl HI.out ?_)
              refine (HPt.out _ T9.out (by simp)).mono ?_; rintro ex w10 ⟨rfl, hT10, hK10⟩
              have T10 := Lib.hid hT10
              have hK10 : Kp [mb, w7.heap.size] w9 w10 := hK10
              have h7w : w.heap.size ≤ w7.heap.size := K7.out.size
              have Z10 : Hid (PB (w.heap.size + 1) pz w10) := (hK10.block _ Z9.out.lt (by simp; omega)).trans Z9.out
              have K10 : Hid (Kp (mb :: blks A) w w10) := K9.out.trans hK10 (by simp; right; exact h7w)
              clear hT10 hK10 n0 n1 n2 n3
              go_wp2_with (refine wpList_store_mid rfl _ _ _ rfl _ _ (pc V.1) rfl rfl Z10.out.there info24 (pc_one V.1) ?_)
              refine bodyPost_ret (v := .tuple #[pv V.1, .bool V.2.1, .int .i64 V.2.2]) (by simp only [results, Try.results16, Act.put, asAddr]; simp [told w10 (w.heap.size + 1) pz V.1 Z10.out]) rfl ?_
              rw [HPost.out]
              refine ⟨_, rfl, T10.out.kp (bs := [w.heap.size + 1]) (Kp.setCells _ _ (Kp.refl _ _) (Or.inl (by simp))) (by simp; omega) (by simp; omega) (fun j hj => ?_), HAb.out, Kp.setCells _ _ K10.out (Or.inr (by omega)), fun k hk => ?_⟩
              · rcases HBp.out j hj with h1 | h1
                · have := blt.out j h1; simp; omega
                · simp; omega
              · rcases HBp.out k hk with h1 | h1
                · exact Or.inl h1
                · right; omega
        · have hne : (FF != 0) = true := by simpa using hf
          have hM : MM = ((pz, false, FF), abs A) := by rw [HMd.out, if_pos hf]
          subst hM
          clear HMd HFd hf
          go_wp2_with (refine wpList_store_mid rfl _ _ _ rfl _ _ (pc pz) rfl rfl Z2.out.there info24 (pc_one pz) ?_)
          refine bodyPost_ret (v := .tuple #[pv pz, .bool false, .int .i64 FF]) (by simp only [results, Try.results16, Act.put, asAddr]; simp [told w2 (w.heap.size + 1) pz pz Z2.out]) rfl ?_
          rw [HPost.out]
          exact ⟨A, rfl, T2.out.setFar tlt mlt blt.out (by omega) _ _, rfl, Kp.setCells _ _ K2.out (Or.inr (by omega)), fun k hk => Or.inl hk⟩
      · rw [hm] at x6
        clear hm
        go_wp2_with (refine wpList_load_mid rfl 24 _ rfl _ _ rfl (pcl p) _ P1.out.range HU.out rfl HI.out ?_)
        refine (HFf.out _).mono ?_; rintro ex w2 ⟨rfl, hb2⟩
        have T2 := Lib.hid (T1.out.on hb2)
        have Z2 := Lib.hid (Z1.out.keep hb2)
        have P2 := Lib.hid (P1.out.keep hb2)
        have K2 := Lib.hid (K1.out.then hb2)
        clear hb2 T1 Z1 P1 K1 x6 x7 x8
        by_cases hf : FF = 0
        · have h4 := HFd.out hf
          have HPt := Lib.hid (HPt.out h4)
          subst hf
          rw [if_neg (by simp)] at HMd
          go_wp2_with (refine wpList_load_mid rfl 24 _ rfl _ _ rfl (pcl p) _ P2.out.range HU.out rfl HI.out ?_)
          refine (HNm.out _).mono ?_; rintro ex w5 ⟨rfl, hb5⟩
          have h5 : Below w5.heap.size w5 (w5.alloc (.cells (nc (nmOf p)) 74)) := (Below.refl _ _).alloc (Nat.le_refl _) _
          have T6 := Lib.hid ((T2.out.on hb5).on h5)
          have Z6 := Lib.hid ((Z2.out.keep hb5).alloc (.cells (nc (nmOf p)) 74))
          have P6 := Lib.hid ((P2.out.keep hb5).alloc (.cells (nc (nmOf p)) 74))
          have K6 := Lib.hid ((K2.out.then hb5).alloc (.cells (nc (nmOf p)) 74))
          have N6 := Lib.hid (NB.new w5 (nmOf p))
          have h56 : w.heap.size ≤ w5.heap.size := Nat.le_trans K2.out.size hb5.size
          clear hb5 h5 T2 Z2 P2 K2
          go_wp2_with fail
          have ct := T6.out.cell
          have n0 := N6.out.c0
          have n1 := N6.out.c1
          have n2 := N6.out.c2
          have n3 := N6.out.c3
          generalize w5.alloc (.cells (nc (nmOf p)) 74) = w6 at *
          cases hlk : lookB (abs A) (nmOf p) with
          | some g =>
            obtain ⟨e, he, hen, heg⟩ := look_some hlk
            have hM : MM = (putVm (nmOf p) g p, putB (abs A) (nmOf p) g p) := by rw [HMd.out, hlk]
            subst hM
            have HPt := Lib.hid (HPt.out A e)
            have hl := T6.out.drew.look he
            rw [hen] at hl HPt
            have HAb : Hid (abs (putA A e p) = putB (abs A) (nmOf p) g p) := by show _ = _; rw [abs_put, hen, heg]
            have HVv : Hid (putV e p = putVm (nmOf p) g p) := by show _ = _; unfold putV putVm; rw [hen, heg]
            clear hlk HMd
            rw [HVv.out] at HPt
            generalize putVm (nmOf p) g p = V at *
            generalize putB (abs A) (nmOf p) g p = BB at *
            go_region
            have T7 := Lib.hid T6.out.drew
            have Z7 : Hid (PB (w.heap.size + 1) pz w6.drew) := Z6.out
            have P7 : Hid (PB w.heap.size p w6.drew) := P6.out
            have N7 : Hid (NB w5.heap.size (nmOf p) w6.drew) := N6.out
            have K7 := Lib.hid K6.out.drew
            clear ct n0 n1 n2 n3 hl
            have n0 := N7.out.c0
            have n1 := N7.out.c1
            have n2 := N7.out.c2
            have n3 := N7.out.c3
            generalize w6.drew = w7 at *
            go_wp2_with (refine wpList_load_mid rfl 24 _ rfl _ _ rfl (pcl p) _ P7.out.range HU.out rfl HI.out ?_)
            refine (HPt.out _ T7.out he).mono ?_; rintro ex w8 ⟨rfl, hT8, hK8⟩
            have T8 := Lib.hid hT8
            have eb := blt.out e.b (mem_blks.2 ⟨e, he, rfl⟩)
            have Z8 : Hid (PB (w.heap.size + 1) pz w8) := (hK8.block _ Z7.out.lt (by simp; omega)).trans Z7.out
            have K8 : Hid (Kp (mb :: blks A) w w8) := K7.out.trans hK8 (by simp; exact Or.inl (Or.inr (mem_blks.2 ⟨e, he, rfl⟩)))
            clear hT8 hK8 n0 n1 n2 n3
            go_wp2_with (refine wpList_store_mid rfl _ _ _ rfl _ _ (pc V.1) rfl rfl Z8.out.there info24 (pc_one V.1) ?_)
            refine bodyPost_ret (v := .tuple #[pv V.1, .bool V.2.1, .int .i64 V.2.2]) (by simp only [results, Try.results16, Act.put, asAddr]; simp [told w8 (w.heap.size + 1) pz V.1 Z8.out]) rfl ?_
            rw [HPost.out]
            exact ⟨putA A e p, rfl, T8.out.setFar tlt mlt (fun j hj => blt.out j (blks_put j hj)) (by omega) _ _, HAb.out, Kp.setCells _ _ K8.out (Or.inr (by omega)), fun k hk => Or.inl (blks_put k hk)⟩
          | none =>
            have hmiss := look_none hlk
            have hl := T6.out.drew.miss hwf.out hmiss
            have hlen := fun ty => T6.out.drew.len ty
            have habl : (abs A).length = A.length := by simp [abs]
            rw [hlk] at HMd
            have HMd : Hid (MM = if (abs A).length = 8 then ((pz, false, 9), abs A) else (putVm (nmOf p) gm0 p, putB (abs A ++ [(nmOf p, gm0)]) (nmOf p) gm0 p)) := HMd.out
            rw [habl] at HMd
            clear hlk
            by_cases h8 : A.length = 8
            · have hM : MM = ((pz, false, 9), abs A) := by rw [HMd.out, if_pos h8]
              subst hM
              rw [h8] at hlen
              have H8 := Lib.hid h8
              clear HMd h8 habl
              go_region
              have T7 := Lib.hid T6.out.drew
              have Z7 : Hid (PB (w.heap.size + 1) pz w6.drew) := Z6.out
              have K7 := Lib.hid K6.out.drew
              have ct7 := T7.out.cell
              clear ct n0 n1 n2 n3 hl
              generalize w6.drew = w7 at *
              go_wp2_with (refine wpList_store_mid rfl _ _ _ rfl _ _ (pc pz) rfl rfl Z7.out.there info24 (pc_one pz) ?_)
              refine bodyPost_ret (v := .tuple #[pv pz, .bool false, .int .i64 9]) (by simp only [results, Try.results16, Act.put, asAddr]; simp [told w7 (w.heap.size + 1) pz pz Z7.out]) rfl ?_
              rw [HPost.out]
              exact ⟨A, rfl, T7.out.setFar tlt mlt blt.out (by omega) _ _, rfl, Kp.setCells _ _ K7.out (Or.inr (by omega)), fun k hk => Or.inl hk⟩
            · have hle := T6.out.le
              have hM : MM = (putVm (nmOf p) gm0 p, putB (abs A ++ [(nmOf p, gm0)]) (nmOf p) gm0 p) := by rw [HMd.out, if_neg h8]
              subst hM
              have h8i : ((A.length : Int) == 8) = false := by rw [beq_eq_false_iff_ne]; omega
              have hlt8 : A.length < 8 := by omega
              have HMiss := Lib.hid hmiss
              clear HMd h8 habl hmiss
              go_region
              have T7 := Lib.hid T6.out.drew
              have Z7 : Hid (PB (w.heap.size + 1) pz w6.drew) := Z6.out
              have P7 : Hid (PB w.heap.size p w6.drew) := P6.out
              have N7 : Hid (NB w5.heap.size (nmOf p) w6.drew) := N6.out
              have K7 := Lib.hid K6.out.drew
              have ct7 := T7.out.cell
              clear ct n0 n1 n2 n3 hl
              generalize w6.drew = w7 at *
              go_wp2_with fail
              have T8 := Lib.hid (T7.out.drew.alloc (.cells gz 79))
              have G8 := Lib.hid (GB.new w7.drew)
              obtain ⟨w9, hupd, hT9, hK9⟩ := T8.out.put hwf.out HMiss.out hlt8 G8.out gm0_inv (fun hm => by have := T7.out.blt _ hm; exact Nat.lt_irrefl _ this)
              have mlt7 := T7.out.mlt
              have tlt7 := T7.out.lt
              have n7lt := N7.out.lt
              have z7lt := Z7.out.lt
              have p7lt := P7.out.lt
              have N8 : Hid (NB w5.heap.size (nmOf p) (w7.drew.alloc (.cells gz 79))) := NB.alloc (W := w7.drew) N7.out (.cells gz 79)
              have P8 : Hid (PB w.heap.size p (w7.drew.alloc (.cells gz 79))) := P7.out.drew.alloc (.cells gz 79)
              have Z8 : Hid (PB (w.heap.size + 1) pz (w7.drew.alloc (.cells gz 79))) := Z7.out.drew.alloc (.cells gz 79)
              have N9 : Hid (NB w5.heap.size (nmOf p) w9) := N8.out.kp hK9 (by simp; omega)
              have P9 : Hid (PB w.heap.size p w9) := (hK9.block _ P8.out.lt (by simp; omega)).trans P8.out
              have Z9 : Hid (PB (w.heap.size + 1) pz w9) := (hK9.block _ Z8.out.lt (by simp; omega)).trans Z8.out
              have T9 := Lib.hid hT9
              have K9 : Hid (Kp (mb :: blks A) w w9) := (K7.out.drew.alloc (.cells gz 79)).trans hK9 (by simp)
              have HS6 : Hid ((w7.drew.alloc (.cells gz 79)).cell? ⟨tb, 0, none⟩ = some (.map (some mb)) ∧ Hid (NB w5.heap.size (nmOf p) (w7.drew.alloc (.cells gz 79)))) := ⟨T8.out.cell, N8⟩
              have HS7 : Hid (w9.cell? ⟨tb, 0, none⟩ = some (.map (some mb)) ∧ Hid (NB w5.heap.size (nmOf p) w9)) := ⟨T9.out.cell, N9⟩
              refine wp_region_held_drew (S := fun w' => w'.cell? ⟨tb, 0, none⟩ = some (.map (some mb)) ∧ Hid (NB w5.heap.size (nmOf p) w')) (by kernel_rfl) ⟨T7.out.drew.cell, N7.out⟩ (fun hHeld => ?_)
              refine takeH (i := 0) (d := some 51) (v := ?_) rfl rfl (by kernel_rfl) (by kernel_rfl) (by kernel_rfl) (fun _ _ _ h => h) (Or.inl ⟨by rfl, ?_⟩) hHeld ?_
              rotate_left
              · intro w' hSw; (try dsimp only at hSw); go_simp; try with_reducible rfl
              simp only [Act.put, List.setIfInBounds_toArray, List.set_cons_zero, List.set_cons_succ]
              refine takeH (i := 1) (d := some 52) (v := ?_) rfl rfl (by kernel_rfl) (by kernel_rfl) (by kernel_rfl) (fun _ _ _ h => h) (Or.inl ⟨by rfl, ?_⟩) hHeld ?_
              rotate_left
              · intro w' hSw; (try dsimp only at hSw); go_simp; try with_reducible rfl
              simp only [Act.put, List.setIfInBounds_toArray, List.set_cons_zero, List.set_cons_succ]
              refine takeH (i := 2) (d := some 53) (v := ?_) rfl rfl (by kernel_rfl) (by kernel_rfl) (by kernel_rfl) (fun _ _ _ h => h) (Or.inl ⟨by rfl, ?_⟩) hHeld ?_
              rotate_left
              · intro w' hSw; (try dsimp only at hSw); go_simp; try with_reducible rfl
              simp only [Act.put, List.setIfInBounds_toArray, List.set_cons_zero, List.set_cons_succ]
              refine takeH (i := 3) (d := some 54) (v := ?_) rfl rfl (by kernel_rfl) (by kernel_rfl) (by kernel_rfl) (fun _ _ _ h => h) (Or.inl ⟨by rfl, ?_⟩) hHeld ?_
              rotate_left
              · intro w' hSw; (try dsimp only at hSw); obtain ⟨c1, c2⟩ := hSw; go_simp; try with_reducible rfl
              simp only [Act.put, List.setIfInBounds_toArray, List.set_cons_zero, List.set_cons_succ]
              refine takeH (i := 4) (d := some 55) (v := ?_) rfl rfl (by kernel_rfl) (by kernel_rfl) (by kernel_rfl) (fun _ _ _ h => h) (Or.inl ⟨by rfl, ?_⟩) hHeld ?_
              rotate_left
              · intro w' hSw; (try dsimp only at hSw); obtain ⟨c1, c2⟩ := hSw; have n0 := c2.out.c0; have n1 := c2.out.c1; have n2 := c2.out.c2; have n3 := c2.out.c3; go_simp; try with_reducible rfl
              simp only [Act.put, List.setIfInBounds_toArray, List.set_cons_zero, List.set_cons_succ]
              refine takeH (i := 5) (d := some 56) rfl rfl (by kernel_rfl) (by kernel_rfl) (by kernel_rfl) (fun _ _ _ h => h) (yieldsIf_build (by rfl) rfl) hHeld ?_
              simp only [Act.put, List.setIfInBounds_toArray, List.set_cons_zero, List.set_cons_succ]
              refine wpAnyH_ready (rs := [6]) (by kernel_rfl) (by simp) ?_
              refine AllReadyH.cons rfl (fun K hK => ?_) AllReadyH.nil
              refine wp_box_gm rfl rfl ?_
              clear hHeld
              refine hK.out _ _ HS6.out (fun hHeld => ?_)
              clear hK K
              try simp only [Act.put, List.setIfInBounds_toArray, List.set_cons_zero, List.set_cons_succ]
              refine wpAnyH_ready (rs := [7]) (by kernel_rfl) (by simp) ?_
              refine AllReadyH.cons rfl (fun K hK => ?_) AllReadyH.nil
              refine wp_update_run rfl rfl rfl rfl hupd ?_
              clear hHeld
              refine hK.out _ _ HS7.out (fun hHeld => ?_)
              clear hK K
              try simp only [Act.put, List.setIfInBounds_toArray, List.set_cons_zero, List.set_cons_succ]
              refine wpAnyH_done (by kernel_rfl) ?_ _
              have HPt := Lib.hid (HPt.out (A ++ [⟨nmOf p, w7.heap.size, gm0⟩]) ⟨nmOf p, w7.heap.size, gm0⟩)
              have HAb : Hid (abs (putA (A ++ [⟨nmOf p, w7.heap.size, gm0⟩]) ⟨nmOf p, w7.heap.size, gm0⟩ p) = putB (abs A ++ [(nmOf p, gm0)]) (nmOf p) gm0 p) := by show _ = _; rw [abs_put]; unfold abs; rw [List.map_append]; rfl
              have HVv : Hid (putV ⟨nmOf p, w7.heap.size, gm0⟩ p = putVm (nmOf p) gm0 p) := rfl
              have HBp : Hid (∀ k ∈ blks (putA (A ++ [⟨nmOf p, w7.heap.size, gm0⟩]) ⟨nmOf p, w7.heap.size, gm0⟩ p), k ∈ blks A ∨ k = w7.heap.size) := fun k hk => by
                have := blks_put k hk
                unfold blks at this
                rw [List.map_append, List.mem_append] at this
                rcases this with h1 | h1
                · exact Or.inl h1
                · right; simpa using h1
              rw [HVv.out] at HPt
              generalize putVm (nmOf p) gm0 p = V at *
              generalize putB (abs A ++ [(nmOf p, gm0)]) (nmOf p) gm0 p = BB at *
              clear ct7 hupd HS6 HS7 T8 G8 hT9 hK9
              have n0 := N9.out.c0
              have n1 := N9.out.c1
              have n2 := N9.out.c2
              have n3 := N9.out.c3
              go_wp2_with (refine wpList_load_mid rfl 24 _ rfl _ _ rfl (pcl p) _ P9.out.range HU.out rfl HI.out ?_)
              refine (HPt.out _ T9.out (by simp)).mono ?_; rintro ex w10 ⟨rfl, hT10, hK10⟩
              have T10 := Lib.hid hT10
              have hK10 : Kp [mb, w7.heap.size] w9 w10 := hK10
              have h7w : w.heap.size ≤ w7.heap.size := K7.out.size
              have Z10 : Hid (PB (w.heap.size + 1) pz w10) := (hK10.block _ Z9.out.lt (by simp; omega)).trans Z9.out
              have K10 : Hid (Kp (mb :: blks A) w w10) := K9.out.trans hK10 (by simp; right; exact h7w)
              clear hT10 hK10 n0 n1 n2 n3
              go_wp2_with (refine wpList_store_mid rfl _ _ _ rfl _ _ (pc V.1) rfl rfl Z10.out.there info24 (pc_one V.1) ?_)
              refine bodyPost_ret (v := .tuple #[pv V.1, .bool V.2.1, .int .i64 V.2.2]) (by simp only [results, Try.results16, Act.put, asAddr]; simp [told w10 (w.heap.size + 1) pz V.1 Z10.out]) rfl ?_
              rw [HPost.out]
              refine ⟨_, rfl, T10.out.kp (bs := [w.heap.size + 1]) (Kp.setCells _ _ (Kp.refl _ _) (Or.inl (by simp))) (by simp; omega) (by simp; omega) (fun j hj => ?_), HAb.out, Kp.setCells _ _ K10.out (Or.inr (by omega)), fun k hk => ?_⟩
              · rcases HBp.out j hj with h1 | h1
                · have := blt.out j h1; simp; omega
                · simp; omega
              · rcases HBp.out k hk with h1 | h1
                · exact Or.inl h1
                · right; omega
        · have hne : (FF != 0) = true := by simpa using hf
          have hM : MM = ((pz, false, FF), abs A) := by rw [HMd.out, if_pos hf]
          subst hM
          clear HMd HFd hf
          go_wp2_with (refine wpList_store_mid rfl _ _ _ rfl _ _ (pc pz) rfl rfl Z2.out.there info24 (pc_one pz) ?_)
          refine bodyPost_ret (v := .tuple #[pv pz, .bool false, .int .i64 FF]) (by simp only [results, Try.results16, Act.put, asAddr]; simp [told w2 (w.heap.size + 1) pz pz Z2.out]) rfl ?_
          rw [HPost.out]
          exact ⟨A, rfl, T2.out.setFar tlt mlt blt.out (by omega) _ _, rfl, Kp.setCells _ _ K2.out (Or.inr (by omega)), fun k hk => Or.inl hk⟩
  · have hM : MM = ((pz, false, chk p), abs A) := by rw [HMd.out, if_pos hk]
    subst hM
    generalize chk p = c at *
    have hne : (c != 0) = true := by simpa using hk
    clear HMd hbody hk
    go_enter Try.func16, Try.ntmps16
    go_wp2_with (refine wpList_load_mid rfl 24 _ rfl _ _ rfl (pcl p) _ P0.out.range HU.out rfl HI.out ?_)
    refine (HC.out _).mono ?_; rintro ex w1 ⟨rfl, hb1⟩
    have T1 := Lib.hid (T0.out.on hb1)
    have Z1 := Lib.hid (Z0.out.keep hb1)
    have K1 := Lib.hid (K0.out.then hb1)
    go_wp2_with (refine wpList_store_mid rfl _ _ _ rfl _ _ (pc pz) rfl rfl Z1.out.there info24 (pc_one pz) ?_)
    refine bodyPost_ret (v := .tuple #[pv pz, .bool false, .int .i64 c]) (by simp only [results, Try.results16, Act.put, asAddr]; simp [told w1 (w.heap.size + 1) pz pz Z1.out]) rfl ?_
    rw [HPost.out]
    exact ⟨A, rfl, T1.out.setFar tlt mlt blt.out (by omega) _ _, rfl, Kp.setCells _ _ K1.out (Or.inr (by omega)), fun k hk => Or.inl hk⟩
end Go.Proofs.Ytfnmcnbiahfnfaa
