/-
  Contract of put (package frag).
-/
import Derived.Test.YtfnmcnbiahfnfaaTc
import Derived.Test.YtfnmcnbiahfnfaaGe
import Derived.BigRegion
namespace Go.Proofs.Ytfnmcnbiahfnfaa
open Go.RowKit Go.Maps
set_option linter.unusedVariables false
set_option linter.unusedSimpArgs false

/-- Can p not be of one packet with what has come? -/
def pErr (g : Gm) (p : Pk) : Bool := gends g p || gdiff g p p.body.size
/-- What put answers. -/
def putV (e : Ent) (p : Pk) : Pk × Bool × Int := if pErr e.g p = true then (pz, false, 4) else if gwhole (gadd e.g p) = true then (gpk (gadd e.g p) e.n, true, 0) else (pz, false, 0)
/-- What put leaves. -/
def putA (A : List Ent) (e : Ent) (p : Pk) : List Ent := if pErr e.g p = true then delA A e.n else if gwhole (gadd e.g p) = true then delA A e.n else updA A e.n (gadd e.g p)

theorem Kp.setCells {bs : List Nat} {k : Nat} (vs : List Value) : ∀ {w w' : World} (o : Nat), Kp bs w w' → (k ∈ bs ∨ w.heap.size ≤ k) → Kp bs w (w'.setCells k o vs) := by
  induction vs with
  | nil => exact fun o h _ => h
  | cons v r ih => exact fun o h hk => ih (o + 1) (h.setCell (p := ⟨k, o, none⟩) hk v) hk
theorem Tab.setFar {w W : World} {tb mb k : Nat} {A : List Ent} (h : Tab W tb mb A) (h1 : tb < w.heap.size) (h2 : mb < w.heap.size) (h3 : ∀ j ∈ blks A, j < w.heap.size) (hk : w.heap.size ≤ k) (o : Nat) (vs : List Value) : Tab (W.setCells k o vs) tb mb A :=
  h.kp (bs := [k]) (Kp.setCells vs o (Kp.refl _ _) (Or.inl (by simp))) (by simp; omega) (by simp; omega) (fun j hj => by have := h3 j hj; simp; omega)
theorem blks_delA {A : List Ent} {n : Nm} : ∀ k ∈ blks (delA A n), k ∈ blks A := fun k hk => by
  obtain ⟨e, he, rfl⟩ := mem_blks.1 hk
  exact mem_blks.2 ⟨e, (mem_delA.1 he).1, rfl⟩
theorem del_upd (A : List Ent) (n : Nm) (g : Gm) : delA (updA A n g) n = delA A n := by
  unfold delA updA
  induction A with
  | nil => rfl
  | cons a A ih =>
    rw [List.map_cons, List.filter_cons, List.filter_cons, ih]
    by_cases h : a.n = n
    · rw [if_pos h, if_neg (by simp [h]), if_neg (by simp [h])]
    · rw [if_neg h]
theorem upd_mem {A : List Ent} {e : Ent} (he : e ∈ A) (g : Gm) : ({ e with g := g } : Ent) ∈ updA A e.n g := List.mem_map.2 ⟨e, he, if_pos rfl⟩

set_option maxHeartbeats 8000000 in
set_option maxRecDepth 100000 in
theorem put_any (tb mb : Nat) (A : List Ent) (e : Ent) (p : Pk) (w : World) (h : Tab w tb mb A) (he : e ∈ A) (hk : chk p = 0) (h4 : fend p ≤ 4000) :
    Calls Try.prog 30 #[.pointer (some ⟨tb, 0, none⟩), nv e.n, pv p] w fun ex w' => ex = .returned (.tuple #[pv (putV e p).1, .bool (putV e p).2.1, .int .i64 (putV e p).2.2]) ∧ Tab w' tb mb (putA A e p) ∧ Kp [mb, e.b] w w' := by
  have hw3 : Below w.heap.size w (((w.alloc (.cells (nc e.n) 74)).alloc (.cells (pc p) 24)).alloc (.cells pzc 24)) := (((Below.refl _ _).alloc (Nat.le_refl _) _).alloc (by simp) _).alloc (by simp; omega) _
  have T0 := Lib.hid (h.on hw3)
  have K0 : Hid (Kp [mb, e.b] w (((w.alloc (.cells (nc e.n) 74)).alloc (.cells (pc p) 24)).alloc (.cells pzc 24))) := Kp.ofBelow hw3
  have N0 := Lib.hid (((NB.new w e.n).alloc (.cells (pc p) 24)).alloc (.cells pzc 24))
  have HV : Hid (putV e p = if pErr e.g p = true then (pz, false, 4) else if gwhole (gadd e.g p) = true then (gpk (gadd e.g p) e.n, true, 0) else (pz, false, 0)) := rfl
  have HA : Hid (putA A e p = if pErr e.g p = true then delA A e.n else if gwhole (gadd e.g p) = true then delA A e.n else updA A e.n (gadd e.g p)) := rfl
  have HPe : Hid (pErr e.g p = (gends e.g p || gdiff e.g p p.body.size)) := rfl
  have P0 : Hid (PB (w.heap.size + 1) p (((w.alloc (.cells (nc e.n) 74)).alloc (.cells (pc p) 24)).alloc (.cells pzc 24))) := by
    have := (PB.new (w.alloc (.cells (nc e.n) 74)) p).alloc (.cells pzc 24)
    rwa [show (w.alloc (.cells (nc e.n) 74)).heap.size = w.heap.size + 1 from by simp] at this
  have Z0 : Hid (PB (w.heap.size + 1 + 1) pz (((w.alloc (.cells (nc e.n) 74)).alloc (.cells (pc p) 24)).alloc (.cells pzc 24))) := by
    have := PB.newz ((w.alloc (.cells (nc e.n) 74)).alloc (.cells (pc p) 24))
    rwa [show ((w.alloc (.cells (nc e.n) 74)).alloc (.cells (pc p) 24)).heap.size = w.heap.size + 1 + 1 from by simp] at this
  have tlt := h.lt
  have mlt := h.mlt
  have blt := Lib.hid h.blt
  have ebl : e.b < w.heap.size := (h.grams e he).lt
  have emb : e.b ≠ mb := (h.ne2 he).2
  have etb : e.b ≠ tb := (h.ne2 he).1
  have hsz : p.off.toNat * 8 + p.body.size ≤ 4000 := by
    obtain ⟨_, _, _, ho, _⟩ := chk_zero hk
    unfold fend at h4; omega
  have HI0 := Lib.hid (h.inv e he)
  have HU := Lib.hid Try.underlying24
  have HI : Hid ((Try.prog.info? 24).map (·.size) = some 9) := info24
  have HE : Hid (∀ w', GB e.b e.g w' → Calls Try.prog 38 #[.pointer (some ⟨e.b, 0, none⟩), pv p] w' fun ex w'' => ex = .returned (.bool (gends e.g p)) ∧ Below w'.heap.size w' w'') := fun w' hg => ends_any e.b e.g p w' hg hk
  have HDf : Hid (∀ w', GB e.b e.g w' → Calls Try.prog 39 #[.pointer (some ⟨e.b, 0, none⟩), pv p] w' fun ex w'' => ex = .returned (.bool (gdiff e.g p p.body.size)) ∧ Below w'.heap.size w' w'') := fun w' hg => differs_any e.b e.g p w' hg hk h4
  have HAd : Hid (∀ w', GB e.b e.g w' → Calls Try.prog 40 #[.pointer (some ⟨e.b, 0, none⟩), pv p] w' fun ex w'' => ex = .returned (.tuple #[]) ∧ GB e.b (gadd e.g p) w'' ∧ Kp [e.b] w' w'') := fun w' hg => add_any e.b e.g p w' hg hk h4 HI0.out.m4 HI0.out.reach
  have HGi := Lib.hid (gadd_inv HI0.out hsz)
  have HWh : Hid (∀ w', GB e.b (gadd e.g p) w' → Calls Try.prog 41 #[.pointer (some ⟨e.b, 0, none⟩)] w' fun ex w'' => ex = .returned (.bool (gwhole (gadd e.g p))) ∧ Below w'.heap.size w' w'') := fun w' hg => whole_any e.b _ w' hg
  have HPk : Hid (∀ w', GB e.b (gadd e.g p) w' → Calls Try.prog 42 #[.pointer (some ⟨e.b, 0, none⟩), nv e.n] w' fun ex w'' => ex = .returned (pv (gpk (gadd e.g p) e.n)) ∧ Below w'.heap.size w' w'') := fun w' hg => packet_any e.b _ e.n w' hg HGi.out.reach
  generalize putV e p = V at *
  generalize putA A e p = A' at *
  generalize gdiff e.g p p.body.size = DF at *
  generalize gends e.g p = EN at *
  generalize pErr e.g p = PE at *
  generalize gadd e.g p = g' at *
  generalize gwhole g' = WH at *
  generalize gpk g' e.n = PQ at *
  clear hk h4 hsz hw3
  go_enter Try.func30, Try.ntmps30
  go_wp2_with fail
  generalize ((w.alloc (.cells (nc e.n) 74)).alloc (.cells (pc p) 24)).alloc (.cells pzc 24) = w0 at *
  have ct := T0.out.cell
  have n0 := N0.out.c0
  have n1 := N0.out.c1
  have n2 := N0.out.c2
  have n3 := N0.out.c3
  have hlk := T0.out.drew.look he
  go_region
  have T1 := Lib.hid T0.out.drew
  have N1 : Hid (NB w.heap.size e.n w0.drew) := N0.out
  have P1 : Hid (PB (w.heap.size + 1) p w0.drew) := P0.out
  have Z1 : Hid (PB (w.heap.size + 1 + 1) pz w0.drew) := Z0.out
  have K1 := Lib.hid K0.out.drew
  generalize w0.drew = w1 at *
  clear ct n0 n1 n2 n3 hlk T0 N0 P0 Z0 K0 w0
  go_wp2_with (refine wpList_load_mid rfl 24 _ rfl _ _ rfl (pcl p) _ P1.out.range HU.out rfl HI.out ?_)
  refine (HE.out _ (T1.out.grams e he)).mono ?_; rintro ex w2 ⟨rfl, hb2⟩
  have T2 := Lib.hid (T1.out.on hb2)
  have N2 := Lib.hid (N1.out.keep hb2)
  have P2 := Lib.hid (P1.out.keep hb2)
  have Z2 := Lib.hid (Z1.out.keep hb2)
  have K2 := Lib.hid (K1.out.then hb2)
  clear hb2 T1 N1 P1 Z1 K1 w1
  cases EN with
  | true =>
    have hPE : PE = true := by rw [HPe.out]; rfl
    have hV : V = (pz, false, 4) := by rw [HV.out, if_pos hPE]
    have hA : A' = delA A e.n := by rw [HA.out, if_pos hPE]
    subst hV hA
    go_wp2_with fail
    have ct := T2.out.cell
    have n0 := N2.out.c0
    have n1 := N2.out.c1
    have n2 := N2.out.c2
    have n3 := N2.out.c3
    obtain ⟨w4, hrun, hT4, hK4⟩ := T2.out.drew.del he 0
    have T4 := Lib.hid hT4
    have Z4 : Hid (PB (w.heap.size + 1 + 1) pz w4) := (hK4.block _ Z2.out.lt (by simp; omega)).trans Z2.out
    have K4 := Lib.hid (K2.out.drew.trans hK4 (by simp))
    clear hT4 hK4
    go_region
    go_wp2_with (refine wpList_store_mid rfl _ _ _ rfl _ _ (pc pz) rfl rfl Z4.out.there info24 (pc_one pz) ?_)
    exact bodyPost_ret (v := .tuple #[pv pz, .bool false, .int .i64 4]) (by simp only [results, Try.results30, Act.put, asAddr]; simp [told w4 (w.heap.size + 1 + 1) pz pz Z4.out]) rfl ⟨rfl, T4.out.setFar tlt mlt (fun j hj => blt.out j (blks_delA j hj)) (by omega) _ _, Kp.setCells _ _ K4.out (Or.inr (by omega))⟩
  | false =>
    go_wp2_with (refine wpList_load_guard (by rfl) 24 _ rfl _ _ rfl (pcl p) _ P2.out.range HU.out rfl HI.out ?_)
    refine (HDf.out _ (T2.out.grams e he)).mono ?_; rintro ex w3 ⟨rfl, hb3⟩
    have T2 := Lib.hid (T2.out.on hb3)
    have N2 := Lib.hid (N2.out.keep hb3)
    have P2 := Lib.hid (P2.out.keep hb3)
    have Z2 := Lib.hid (Z2.out.keep hb3)
    have K2 := Lib.hid (K2.out.then hb3)
    clear hb3
    cases DF with
    | true =>
      have hPE : PE = true := by rw [HPe.out]; rfl
      have hV : V = (pz, false, 4) := by rw [HV.out, if_pos hPE]
      have hA : A' = delA A e.n := by rw [HA.out, if_pos hPE]
      subst hV hA
      go_wp2_with fail
      have ct := T2.out.cell
      have n0 := N2.out.c0
      have n1 := N2.out.c1
      have n2 := N2.out.c2
      have n3 := N2.out.c3
      obtain ⟨w4, hrun, hT4, hK4⟩ := T2.out.drew.del he 0
      have T4 := Lib.hid hT4
      have Z4 : Hid (PB (w.heap.size + 1 + 1) pz w4) := (hK4.block _ Z2.out.lt (by simp; omega)).trans Z2.out
      have K4 := Lib.hid (K2.out.drew.trans hK4 (by simp))
      clear hT4 hK4
      go_region
      go_wp2_with (refine wpList_store_mid rfl _ _ _ rfl _ _ (pc pz) rfl rfl Z4.out.there info24 (pc_one pz) ?_)
      exact bodyPost_ret (v := .tuple #[pv pz, .bool false, .int .i64 4]) (by simp only [results, Try.results30, Act.put, asAddr]; simp [told w4 (w.heap.size + 1 + 1) pz pz Z4.out]) rfl ⟨rfl, T4.out.setFar tlt mlt (fun j hj => blt.out j (blks_delA j hj)) (by omega) _ _, Kp.setCells _ _ K4.out (Or.inr (by omega))⟩
    | false =>
      have hPE : ¬ PE = true := by rw [HPe.out]; simp
      rw [if_neg hPE] at HV HA
      go_wp2_with (refine wpList_load_mid rfl 24 _ rfl _ _ rfl (pcl p) _ P2.out.range HU.out rfl HI.out ?_)
      refine (HAd.out _ (T2.out.grams e he)).mono ?_; rintro ex w4 ⟨rfl, hG4, hK4⟩
      have T4 := Lib.hid (T2.out.upd he hG4 HGi.out hK4)
      have G4 := Lib.hid hG4
      have N4 : Hid (NB w.heap.size e.n w4) := N2.out.kp hK4 (by simp; omega)
      have Z4 : Hid (PB (w.heap.size + 1 + 1) pz w4) := (hK4.block _ Z2.out.lt (by simp; omega)).trans Z2.out
      have K4 := Lib.hid (K2.out.trans hK4 (by simp))
      clear hG4 hK4 T2 N2 P2 Z2 K2
      go_wp2_with fail
      refine (HWh.out _ G4.out).mono ?_; rintro ex w5 ⟨rfl, hb5⟩
      have T5 := Lib.hid (T4.out.on hb5)
      have G5 := Lib.hid (G4.out.keep hb5)
      have N5 := Lib.hid (N4.out.keep hb5)
      have Z5 := Lib.hid (Z4.out.keep hb5)
      have K5 := Lib.hid (K4.out.then hb5)
      clear hb5 T4 G4 N4 Z4 K4
      cases WH with
      | false =>
        have hV : V = (pz, false, 0) := by rw [HV.out]; rfl
        have hA : A' = updA A e.n g' := by rw [HA.out]; rfl
        subst hV hA
        go_wp2_with (refine wpList_store_mid rfl _ _ _ rfl _ _ (pc pz) rfl rfl Z5.out.there info24 (pc_one pz) ?_)
        exact bodyPost_ret (v := .tuple #[pv pz, .bool false, .int .i64 0]) (by simp only [results, Try.results30, Act.put, asAddr]; simp [told w5 (w.heap.size + 1 + 1) pz pz Z5.out]) rfl ⟨rfl, T5.out.setFar tlt mlt (fun j hj => blt.out j (by rwa [blks_updA] at hj)) (by omega) _ _, Kp.setCells _ _ K5.out (Or.inr (by omega))⟩
      | true =>
        have hV : V = (PQ, true, 0) := by rw [HV.out]; rfl
        have hA : A' = delA A e.n := by rw [HA.out]; rfl
        subst hV hA
        go_wp2_with fail
        have ct := T5.out.cell
        have n0 := N5.out.c0
        have n1 := N5.out.c1
        have n2 := N5.out.c2
        have n3 := N5.out.c3
        obtain ⟨w6, hrun, hT6, hK6⟩ := T5.out.drew.del (upd_mem he g') 0
        have hrun : (Builtin.delete_ #[70, 74] 0 #[.map (some mb), nv e.n]).run Try.prog w5.drew = .ok (.tuple #[]) w6 := hrun
        have hT6 : Tab w6 tb mb (delA (updA A e.n g') e.n) := hT6
        rw [del_upd] at hT6
        have T6 := Lib.hid hT6
        have G6 := Lib.hid (G5.out.drew.kp hK6 (by simpa using emb))
        have N6 : Hid (NB w.heap.size e.n w6) := (hK6.block _ N5.out.lt (by simp; omega)).trans N5.out
        have Z6 : Hid (PB (w.heap.size + 1 + 1) pz w6) := (hK6.block _ Z5.out.lt (by simp; omega)).trans Z5.out
        have K6 := Lib.hid (K5.out.drew.trans hK6 (by simp))
        clear hT6 hK6
        go_region
        clear ct n0 n1 n2 n3 T5 G5 N5 Z5 K5 hrun
        have n0 := N6.out.c0
        have n1 := N6.out.c1
        have n2 := N6.out.c2
        have n3 := N6.out.c3
        go_wp2_with fail
        refine (HPk.out _ G6.out).mono ?_; rintro ex w7 ⟨rfl, hb7⟩
        have T7 := Lib.hid (T6.out.on hb7)
        have Z7 := Lib.hid (Z6.out.keep hb7)
        have K7 := Lib.hid (K6.out.then hb7)
        clear hb7 n0 n1 n2 n3
        go_wp2_with (refine wpList_store_mid rfl _ _ _ rfl _ _ (pc PQ) rfl rfl Z7.out.there info24 (pc_one PQ) ?_)
        exact bodyPost_ret (v := .tuple #[pv PQ, .bool true, .int .i64 0]) (by simp only [results, Try.results30, Act.put, asAddr]; simp [told w7 (w.heap.size + 1 + 1) pz PQ Z7.out]) rfl ⟨rfl, T7.out.setFar tlt mlt (fun j hj => blt.out j (blks_delA j hj)) (by omega) _ _, Kp.setCells _ _ K7.out (Or.inr (by omega))⟩
end Go.Proofs.Ytfnmcnbiahfnfaa
