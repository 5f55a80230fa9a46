/-
  Rows of segments in memory; what is appended to them.
-/
import Derived.Test.YtnhcjefbiihfjaaCo
import Derived.Deep.AppendLies
namespace Go.Proofs.Ytnhcjefbiihfjaa
open Go.RowKit
open Tc (Sg gchk gv gc)
set_option linter.unusedVariables false
set_option linter.unusedSimpArgs false

/-- Where the rest of a row comes from. -/
structure Src (z : Nat) (W : World) (o : Option Addr) (m : Nat) (cs : List Value) : Prop where
  len : cs.length = m * z
  one : ∀ c ∈ cs, c.oneCell' = true
  non : o = none → m = 0
  cell : ∀ ad, o = some ad → ∀ j u, cs[j]? = some u → W.cell? (ad.add j) = some u
theorem Src.keep {z : Nat} {W W' : World} {o : Option Addr} {m : Nat} {cs : List Value} (h : Src z W o m cs) (hb : ∀ ad, o = some ad → ad.block < W.heap.size → W'.heap[ad.block]? = W.heap[ad.block]?) : Src z W' o m cs :=
  ⟨h.len, h.one, h.non, fun ad ho j u hu => by
    have hc := h.cell ad ho j u hu
    have hlt : ad.block < W.heap.size := by have := World.block_lt_of_cell? _ _ hc; rwa [show (ad.add j).block = ad.block from by unfold Addr.add; split <;> rfl] at this
    rw [World.cell?_of_block (w := W) (a := ad.add j) (by rw [show (ad.add j).block = ad.block from by unfold Addr.add; split <;> rfl]; exact hb ad ho hlt)]
    exact hc⟩
theorem Src.on {z : Nat} {W W' : World} {o : Option Addr} {m : Nat} {cs : List Value} (h : Src z W o m cs) (hb : Below W.heap.size W W') : Src z W' o m cs := h.keep fun ad _ hlt => hb.block _ hlt
theorem append_src {P : Program} (w : World) (t ty : TypeId) (base : Nat) (e : TypeId) (i : TypeInfo) (z : Value) (sz bytes : Nat) (ht : P.underlying t = some (.slice e)) (hi : P.info? e = some i) (hz : i.zero = some z)
    (hsize : i.size = sz) (hby : i.bytes = bytes) (hzs : z.cells.size = sz) (hs0 : 0 < sz)
    (v : Value) (o : Option Addr) (n m c : Nat) (xs ys : List Value) (hown : w.ownsRow base e sz v n xs) (hsrc : Src sz w o m ys) (hc : o = none → c = 0)
    (h63 : n + m ≤ maxLen) (hbytes : (n + m) * bytes ≤ 140737488355328) (hbase : base ≤ w.heap.size) :
    ∃ v' w', (Builtin.append_ #[t, t] ty #[v, .slice o m c]).run P w = .ok v' w' ∧ w'.ownsRow base e sz v' (n + m) (xs ++ ys) ∧ w.grownBy w' v.ownBlock ∧ (v'.ownBlock = v.ownBlock ∨ v'.ownBlock = some w.heap.size) := by
  cases o with
  | none =>
    obtain rfl := hsrc.non rfl
    obtain rfl := hc rfl
    have hy : ys = [] := by have := hsrc.len; simpa using this
    subst hy
    exact ⟨v, w, run_append_owned_none (P := P) (w := w) base t ty e i sz ht hi v n xs hown, by simpa using hown, ⟨rfl, rfl, rfl, Nat.le_refl _, fun _ _ _ => rfl⟩, Or.inl rfl⟩
  | some ad =>
    obtain ⟨v', w', h1', h2', h3', _, h5'⟩ := run_append_own_at (P := P) w base t ty e i z sz bytes ht hi hz hsize hby hzs hs0 v n xs hown ad m c ys hsrc.len (hsrc.cell ad rfl) hsrc.one h63 hbytes hbase
    exact ⟨v', w', h1', h2', h3', h5'⟩
/-- As a step of a region that draws. -/
theorem step_src {P : Program} (w : World) {ops : Array Oper} {op : Oper} {a : Act} {K : Act → World → Prop} {Q : Exit → Act → World → Prop} {E : Prop} (hgd : op.guard = none) (s x : Operand) (t : TypeId)
    (hop : op.op = .call { callee := .builtin .append, args := #[s, x], argTypes := #[t, t] }) (base : Nat) (e : TypeId) (i : TypeInfo) (z : Value) (sz bytes : Nat) (ht : P.underlying t = some (.slice e)) (hi : P.info? e = some i) (hz : i.zero = some z)
    (hsize : i.size = sz) (hby : i.bytes = bytes) (hzs : z.cells.size = sz) (hs0 : 0 < sz)
    (v : Value) (o : Option Addr) (n m c : Nat) (xs ys : List Value) (hs : a.eval s = v) (hx : a.eval x = .slice o m c) (hown : w.ownsRow base e sz v n xs) (hsrc : Src sz w o m ys) (hc : o = none → c = 0)
    (h63 : n + m ≤ maxLen) (hbytes : (n + m) * bytes ≤ 140737488355328) (hbase : base ≤ w.heap.size)
    (h : ∀ v' w', w'.ownsRow base e sz v' (n + m) (xs ++ ys) → w.grownBy w' v.ownBlock → (v'.ownBlock = v.ownBlock ∨ v'.ownBlock = some w.heap.size) → K (a.put op.dst v') w') :
    if Region.wanted op (yielded ops a.tmps) = true then Oper.wp P op a w K Q else E := by
  have hw : Region.wanted op (yielded ops a.tmps) = true := by simp [Region.wanted, hgd]
  rw [if_pos hw]
  obtain ⟨v', w', hr, h2, h3, h4⟩ := append_src (P := P) w t op.type base e i z sz bytes ht hi hz hsize hby hzs hs0 v o n m c xs ys hown hsrc hc h63 hbytes hbase
  unfold Oper.wp execOp
  simp only [hop, resolve, invoke, builtin, Sem.run_bind, Sem.run_pure, Result.andThen_ok, List.map_toArray, List.map_cons, List.map_nil, hs, hx, hr]
  exact h v' w' h2 h3 h4
/-- As one of a plain region's operations. -/
theorem wpList_src {P : Program} (w : World) {ops : Array Oper} {rest : List Oper} {op : Oper} {a : Act} {Q : Exit → Act → World → Prop} (hgd : op.guard = none) (s x : Operand) (t : TypeId)
    (hop : op.op = .call { callee := .builtin .append, args := #[s, x], argTypes := #[t, t] }) (base : Nat) (e : TypeId) (i : TypeInfo) (z : Value) (sz bytes : Nat) (ht : P.underlying t = some (.slice e)) (hi : P.info? e = some i) (hz : i.zero = some z)
    (hsize : i.size = sz) (hby : i.bytes = bytes) (hzs : z.cells.size = sz) (hs0 : 0 < sz)
    (v : Value) (o : Option Addr) (n m c : Nat) (xs ys : List Value) (hs : a.eval s = v) (hx : a.eval x = .slice o m c) (hown : w.ownsRow base e sz v n xs) (hsrc : Src sz w o m ys) (hc : o = none → c = 0)
    (h63 : n + m ≤ maxLen) (hbytes : (n + m) * bytes ≤ 140737488355328) (hbase : base ≤ w.heap.size)
    (h : ∀ v' w', w'.ownsRow base e sz v' (n + m) (xs ++ ys) → w.grownBy w' v.ownBlock → (v'.ownBlock = v.ownBlock ∨ v'.ownBlock = some w.heap.size) → wpList P ops Q rest (a.put op.dst v') w') : wpList P ops Q (op :: rest) a w :=
  wpList_plain hgd fun K hK => by
    obtain ⟨v', w', hr, h2, h3, h4⟩ := append_src (P := P) w t op.type base e i z sz bytes ht hi hz hsize hby hzs hs0 v o n m c xs ys hown hsrc hc h63 hbytes hbase
    unfold Oper.wp execOp
    simp only [hop, resolve, invoke, builtin, Sem.run_bind, Sem.run_pure, Result.andThen_ok, List.map_toArray, List.map_cons, List.map_nil, hs, hx, hr]
    exact hK _ _ (h v' w' h2 h3 h4)

/-! Rows of segments. -/
def scells : List Sg → List Value
  | [] => []
  | g :: r => gcl g ++ scells r
theorem scells_append (l m : List Sg) : scells (l ++ m) = scells l ++ scells m := by
  induction l with
  | nil => rfl
  | cons p r ih => simp [scells, ih]
theorem gcl_length (g : Sg) : (gcl g).length = 13 := rfl
theorem scells_length (l : List Sg) : (scells l).length = l.length * 13 := by
  induction l with
  | nil => rfl
  | cons p r ih =>
    show (gcl p ++ scells r).length = (p :: r).length * 13
    rw [List.length_append, gcl_length, ih, List.length_cons]; omega
theorem scells_one (l : List Sg) : ∀ v ∈ scells l, v.oneCell' = true := by
  induction l with
  | nil => intro v hv; cases hv
  | cons p r ih =>
    intro v hv
    rcases List.mem_append.1 hv with h | h
    · exact gcl_one p v h
    · exact ih v h
theorem scells_get : ∀ (L : List Sg) (i : Nat) (g : Sg), L[i]? = some g → ∀ j v, (gcl g)[j]? = some v → (scells L)[i * 13 + j]? = some v
  | [], i, g, h => by simp at h
  | a :: r, 0, g, h => by
    intro j v hv
    obtain rfl : a = g := by simpa using h
    have hj : j < (gcl a).length := (List.getElem?_eq_some_iff.1 hv).1
    simp only [scells, Nat.zero_mul, Nat.zero_add]
    rw [List.getElem?_append_left hj]; exact hv
  | a :: r, i + 1, g, h => by
    intro j v hv
    have := scells_get r i g (by simpa using h) j v hv
    have e : (i + 1) * 13 + j = (gcl a).length + (i * 13 + j) := by rw [gcl_length]; omega
    simp only [scells]
    rw [e, List.getElem?_append_right (Nat.le_add_right _ _), Nat.add_sub_cancel_left]
    exact this
def SRow (W : World) (B : Nat) (v : Value) (L : List Sg) : Prop := W.ownsRow B 35 13 v L.length (scells L)
theorem add_mid0 (g off j : Nat) : (⟨g, off, none⟩ : Addr).add j = ⟨g, off + j, none⟩ := by unfold Addr.add; split <;> simp_all
theorem own_base {w : World} {B B' e size n : Nat} {v : Value} {xs : List Value} (h : w.ownsRow B e size v n xs) (hB : B' ≤ B) : w.ownsRow B' e size v n xs := by
  refine ⟨h.1, ?_⟩
  rcases h.2 with h2 | ⟨g, cap, cur, hv, hg, r⟩
  · exact Or.inl h2
  · exact Or.inr ⟨g, cap, cur, hv, Nat.le_trans hB hg, r⟩
theorem own_form {w : World} {B e size n : Nat} {v : Value} {xs : List Value} (h : w.ownsRow B e size v n xs) : ∃ o c, v = .slice o n c ∧ n ≤ c ∧ (o = none → c = 0) ∧ (0 < n → ∃ g, o = some ⟨g, 0, none⟩) := by
  rcases h.2 with ⟨h1, h2⟩ | ⟨g, cap, cur, hv, hg, hh, hm, r⟩
  · exact ⟨none, 0, by rw [h1, h2], by omega, fun _ => rfl, fun hn => by omega⟩
  · rcases r with ⟨r1, r2⟩
    exact ⟨some ⟨g, 0, none⟩, cap, hv, by first | exact r1 | exact r2.1 | omega, (by intro h; cases h), fun _ => ⟨g, rfl⟩⟩
theorem own_src {w : World} {B e z n c : Nat} {o : Option Addr} {xs : List Value} (h : w.ownsRow B e z (.slice o n c) n xs) (h1 : ∀ c ∈ xs, c.oneCell' = true) : Src z w o n xs ∧ (o = none → c = 0) := by
  rcases h.2 with ⟨h2, h3⟩ | ⟨g, cap, cur, hv, hg, r⟩
  · cases h2
    exact ⟨⟨h.1, h1, fun _ => h3, fun ad ho => absurd ho (by simp)⟩, fun _ => rfl⟩
  · cases hv
    refine ⟨⟨h.1, h1, fun e => absurd e (by simp), fun ad ho j u hu => ?_⟩, fun e => absurd e (by simp)⟩
    cases ho
    exact h.cells rfl j u hu
section
variable {W W' : World} {B : Nat} {v : Value} {L : List Sg}
theorem SRow.on (h : SRow W B v L) (hb : Below W.heap.size W W') : SRow W' B v L := own_kp (bs := []) h (Kp.ofBelow hb) (fun g hg => by simp)
theorem SRow.kp {bs : List Nat} (h : SRow W B v L) (hk : Kp bs W W') (hn : ∀ g, v.ownBlock = some g → g ∉ bs) : SRow W' B v L := own_kp h hk hn
theorem SRow.base {B' : Nat} (h : SRow W B v L) (hB : B' ≤ B) : SRow W B' v L := own_base h hB
theorem SRow.nil (W : World) (B : Nat) : SRow W B (.slice none 0 0) [] := World.ownsRow_nil W B 35 13
theorem SRow.lt (h : SRow W B v L) : ∀ k, v.ownBlock = some k → B ≤ k ∧ k < W.heap.size := World.ownsRow.lt h
theorem SRow.blk (h : SRow W B v L) {g : Nat} (hg : v.ownBlock = some g) : ∃ cur, W.heap[g]? = some (.cells cur 35 (0, 0)) := own_block h hg
theorem SRow.form (h : SRow W B v L) : ∃ (o : Option Addr) (g cap : Nat), v = .slice o L.length cap ∧ (0 < L.length → o = some ⟨g, 0, none⟩ ∧ B ≤ g ∧ g < W.heap.size) := by
  rcases h.2 with ⟨h1, h2⟩ | ⟨g, cap, cur, hv, hg, hh, r⟩
  · exact ⟨none, 0, 0, by rw [h1, h2], fun hn => by omega⟩
  · exact ⟨some ⟨g, 0, none⟩, g, cap, hv, fun _ => ⟨rfl, hg, lt_of_heap hh⟩⟩
theorem SRow.range {g n cap : Nat} (h : SRow W B (.slice (some ⟨g, 0, none⟩) n cap) L) {i : Nat} {q : Sg} (hi : L[i]? = some q) : W.rangeAt g (i * 13) (gcl q) := fun j v hv => by
  have := h.cells rfl (i * 13 + j) v (scells_get L i q hi j v hv)
  rwa [add_mid0, Nat.zero_add] at this
end
theorem info_seg : (Try.prog.info? 35).map (fun i => (i.zero, i.size, i.bytes)) = some (some (.agg gzc), 13, 80) := by kernel_rfl
/-- A connection's memory holds no segments. -/
theorem CT.no_seg {b : Nat} {c : Cn} {P : Pt} {W : World} (h : CT b c P W) {g : Nat} {cs : Array Value} {m : Nat × Nat} (hg : W.heap[g]? = some (.cells cs 35 m)) : g ∉ fp b P := by
  intro hm
  simp only [fp, List.mem_cons, List.mem_append] at hm
  rcases hm with rfl | rfl | rfl | rfl | rfl | hm | hm
  · exact ne_type hg h.blk (by decide) rfl
  · exact ne_type hg h.out.blk (by decide) rfl
  · rcases hi : c.i with _ | t
    · rw [h.pi0 hi] at hg; exact ne_type hg h.blk (by decide) rfl
    · obtain ⟨a, ha⟩ := (h.inn t hi).blk'; exact ne_type hg ha (by decide) rfl
  · exact ne_type hg h.win (by decide) rfl
  · exact ne_type hg h.tim (by decide) rfl
  · obtain ⟨cur, hc⟩ := own_block h.out.own (show P.ov.ownBlock = some g by simpa [rw'] using hm)
    exact ne_type hg hc (by decide) rfl
  · obtain ⟨cur, hc⟩ := own_block h.rst (show P.rv.ownBlock = some g by simpa [rw'] using hm)
    exact ne_type hg hc (by decide) rfl
/-- So what becomes of a connection leaves a row of segments as it is, and the other way round. -/
theorem SRow.up {b : Nat} {c : Cn} {P P' : Pt} {W W' : World} {B : Nat} {v : Value} {L : List Sg} (h : SRow W B v L) (hc : CT b c P W) (hu : Up b P P' W W') : SRow W' B v L :=
  h.kp hu.kp fun g hg => by obtain ⟨cur, hh⟩ := h.blk hg; exact hc.no_seg hh
end Go.Proofs.Ytnhcjefbiihfjaa
