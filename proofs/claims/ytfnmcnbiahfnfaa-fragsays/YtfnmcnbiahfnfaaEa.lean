/-
  What append takes from and makes; the document's Copy of packets (19) and of what is open (33); what is open, in memory.
-/
import Derived.Test.YtfnmcnbiahfnfaaEq
import Derived.Test.YtfnmcnbiahfnfaaGm
import Derived.Deep.DrawnRows
import Derived.Deep.RegionLaw
namespace Go.Proofs.Ytfnmcnbiahfnfaa
open Go.RowKit
set_option linter.unusedVariables false
set_option linter.unusedSimpArgs false

/-- What append takes from: so many rows of z cells from o on. -/
structure Src (z : Nat) (W : World) (o : Option Addr) (m : Nat) (cs : List Value) : Prop where
  len : cs.length = m * z
  one : ∀ c ∈ cs, c.oneCell' = true
  non : o = none → m = 0
  cell : ∀ ad, o = some ad → ∀ j u, cs[j]? = some u → W.cell? (ad.add j) = some u
theorem Src.keep {z : Nat} {W W' : World} {o : Option Addr} {m : Nat} {cs : List Value} (h : Src z W o m cs) (hb : ∀ ad, o = some ad → ad.block < W.heap.size → W'.heap[ad.block]? = W.heap[ad.block]?) : Src z W' o m cs :=
  ⟨h.len, h.one, h.non, fun ad ho j u hu => by
    have hc := h.cell ad ho j u hu
    have hlt : ad.block < W.heap.size := by have := World.block_lt_of_cell? _ _ hc; rwa [show (ad.add j).block = ad.block from by unfold Addr.add; split <;> rfl] at this
    rw [World.cell?_of_block (w := W) (a := ad.add j) (by rw [show (ad.add j).block = ad.block from by unfold Addr.add; split <;> rfl]; exact hb ad ho hlt)]
    exact hc⟩
theorem Src.on {z : Nat} {W W' : World} {o : Option Addr} {m : Nat} {cs : List Value} (h : Src z W o m cs) (hb : Below W.heap.size W W') : Src z W' o m cs := h.keep fun ad _ hlt => hb.block _ hlt

theorem append_src {P : Program} (w : World) (t ty : TypeId) (base : Nat) (e : TypeId) (i : TypeInfo) (z : Value) (sz bytes : Nat) (ht : P.underlying t = some (.slice e)) (hi : P.info? e = some i) (hz : i.zero = some z)
    (hsize : i.size = sz) (hby : i.bytes = bytes) (hzs : z.cells.size = sz) (hs0 : 0 < sz)
    (v : Value) (o : Option Addr) (n m c : Nat) (xs ys : List Value) (hown : w.ownsRow base e sz v n xs) (hsrc : Src sz w o m ys) (hc : o = none → c = 0)
    (h63 : n + m ≤ maxLen) (hbytes : (n + m) * bytes ≤ 140737488355328) (hbase : base ≤ w.heap.size) :
    ∃ v' w', (Builtin.append_ #[t, t] ty #[v, .slice o m c]).run P w = .ok v' w' ∧ w'.ownsRow base e sz v' (n + m) (xs ++ ys) ∧ w.grownBy w' v.ownBlock ∧ (v'.ownBlock = v.ownBlock ∨ v'.ownBlock = some w.heap.size) := by
  cases o with
  | none =>
    obtain rfl := hsrc.non rfl
    obtain rfl := hc rfl
    have hy : ys = [] := by have := hsrc.len; simpa using this
    subst hy
    exact ⟨v, w, run_append_owned_none (P := P) (w := w) base t ty e i sz ht hi v n xs hown, by simpa using hown, ⟨rfl, rfl, rfl, Nat.le_refl _, fun _ _ _ => rfl⟩, Or.inl rfl⟩
  | some ad =>
    obtain ⟨v', w', h1', h2', h3', _, h5'⟩ := run_append_own_at (P := P) w base t ty e i z sz bytes ht hi hz hsize hby hzs hs0 v n xs hown ad m c ys hsrc.len (hsrc.cell ad rfl) hsrc.one h63 hbytes hbase
    exact ⟨v', w', h1', h2', h3', h5'⟩
/-- As a step of a region that draws. -/
theorem step_src {P : Program} (w : World) {ops : Array Oper} {op : Oper} {a : Act} {K : Act → World → Prop} {Q : Exit → Act → World → Prop} {E : Prop} (hgd : op.guard = none) (s x : Operand) (t : TypeId)
    (hop : op.op = .call { callee := .builtin .append, args := #[s, x], argTypes := #[t, t] }) (base : Nat) (e : TypeId) (i : TypeInfo) (z : Value) (sz bytes : Nat) (ht : P.underlying t = some (.slice e)) (hi : P.info? e = some i) (hz : i.zero = some z)
    (hsize : i.size = sz) (hby : i.bytes = bytes) (hzs : z.cells.size = sz) (hs0 : 0 < sz)
    (v : Value) (o : Option Addr) (n m c : Nat) (xs ys : List Value) (hs : a.eval s = v) (hx : a.eval x = .slice o m c) (hown : w.ownsRow base e sz v n xs) (hsrc : Src sz w o m ys) (hc : o = none → c = 0)
    (h63 : n + m ≤ maxLen) (hbytes : (n + m) * bytes ≤ 140737488355328) (hbase : base ≤ w.heap.size)
    (h : ∀ v' w', w'.ownsRow base e sz v' (n + m) (xs ++ ys) → w.grownBy w' v.ownBlock → (v'.ownBlock = v.ownBlock ∨ v'.ownBlock = some w.heap.size) → K (a.put op.dst v') w') :
    if Region.wanted op (yielded ops a.tmps) = true then Oper.wp P op a w K Q else E := by
  have hw : Region.wanted op (yielded ops a.tmps) = true := by simp [Region.wanted, hgd]
  rw [if_pos hw]
  obtain ⟨v', w', hr, h2, h3, h4⟩ := append_src (P := P) w t op.type base e i z sz bytes ht hi hz hsize hby hzs hs0 v o n m c xs ys hown hsrc hc h63 hbytes hbase
  unfold Oper.wp execOp
  simp only [hop, resolve, invoke, builtin, Sem.run_bind, Sem.run_pure, Result.andThen_ok, List.map_toArray, List.map_cons, List.map_nil, hs, hx, hr]
  exact h v' w' h2 h3 h4
/-- As one of a plain region's operations. -/
theorem wpList_src {P : Program} (w : World) {ops : Array Oper} {rest : List Oper} {op : Oper} {a : Act} {Q : Exit → Act → World → Prop} (hgd : op.guard = none) (s x : Operand) (t : TypeId)
    (hop : op.op = .call { callee := .builtin .append, args := #[s, x], argTypes := #[t, t] }) (base : Nat) (e : TypeId) (i : TypeInfo) (z : Value) (sz bytes : Nat) (ht : P.underlying t = some (.slice e)) (hi : P.info? e = some i) (hz : i.zero = some z)
    (hsize : i.size = sz) (hby : i.bytes = bytes) (hzs : z.cells.size = sz) (hs0 : 0 < sz)
    (v : Value) (o : Option Addr) (n m c : Nat) (xs ys : List Value) (hs : a.eval s = v) (hx : a.eval x = .slice o m c) (hown : w.ownsRow base e sz v n xs) (hsrc : Src sz w o m ys) (hc : o = none → c = 0)
    (h63 : n + m ≤ maxLen) (hbytes : (n + m) * bytes ≤ 140737488355328) (hbase : base ≤ w.heap.size)
    (h : ∀ v' w', w'.ownsRow base e sz v' (n + m) (xs ++ ys) → w.grownBy w' v.ownBlock → (v'.ownBlock = v.ownBlock ∨ v'.ownBlock = some w.heap.size) → wpList P ops Q rest (a.put op.dst v') w') : wpList P ops Q (op :: rest) a w :=
  wpList_plain hgd fun K hK => by
    obtain ⟨v', w', hr, h2, h3, h4⟩ := append_src (P := P) w t op.type base e i z sz bytes ht hi hz hsize hby hzs hs0 v o n m c xs ys hown hsrc hc h63 hbytes hbase
    unfold Oper.wp execOp
    simp only [hop, resolve, invoke, builtin, Sem.run_bind, Sem.run_pure, Result.andThen_ok, List.map_toArray, List.map_cons, List.map_nil, hs, hx, hr]
    exact hK _ _ (h v' w' h2 h3 h4)

theorem info81 : (Try.prog.info? 81).map (fun i => (i.zero, i.size, i.bytes)) = some (some (.agg #[.slice none 0 0, .int .i64 0]), 2, 32) := by kernel_rfl

set_option maxHeartbeats 1000000 in
theorem copy_any (o : Option Addr) (m c : Nat) (cs : List Value) (w : World) (hsrc : Src 9 w o m cs) (hc : o = none → c = 0) (hm : m * 64 ≤ 140737488355328) :
    Calls Try.prog 19 #[.slice o m c] w fun e w' => ∃ v, e = .returned v ∧ w'.ownsRow w.heap.size 24 9 v m cs ∧ Below w.heap.size w w' := by
  obtain ⟨i0, hi0, hz0, hz1, hz2⟩ := info_parts info24z
  have HS := Lib.hid hsrc
  have HC := Lib.hid hc
  clear hsrc hc
  go_enter Try.func19, Try.ntmps19
  go_wp2_with (at_builtin; refine wpList_src _ rfl _ _ _ rfl w.heap.size 24 i0 _ 9 64 Try.underlying25 hi0 hz0 hz1 hz2 rfl (by omega) (.slice none 0 0) o 0 m c [] cs rfl rfl (World.ownsRow_nil _ _ _ _) HS.out HC.out (by unfold maxLen; omega) (by omega) (Nat.le_refl _) ?_; intro v' w1 ho1 hg1 hat1)
  go_ret
  refine ⟨v', rfl, by simpa using ho1, (Below.refl _ _).grown hg1 (Nat.le_refl _) (fun k hk => by simp [Value.ownBlock] at hk)⟩
set_option maxHeartbeats 1000000 in
theorem ocopy_any (o : Option Addr) (m c : Nat) (cs : List Value) (w : World) (hsrc : Src 2 w o m cs) (hc : o = none → c = 0) (hm : m ≤ 64) :
    Calls Try.prog 33 #[.slice o m c] w fun e w' => ∃ v, e = .returned v ∧ w'.ownsRow w.heap.size 81 2 v m cs ∧ Below w.heap.size w w' := by
  obtain ⟨i0, hi0, hz0, hz1, hz2⟩ := info_parts info81
  have HS := Lib.hid hsrc
  have HC := Lib.hid hc
  clear hsrc hc
  go_enter Try.func33, Try.ntmps33
  go_wp2_with (at_builtin; refine wpList_src _ rfl _ _ _ rfl w.heap.size 81 i0 _ 2 32 Try.underlying35 hi0 hz0 hz1 hz2 rfl (by omega) (.slice none 0 0) o 0 m c [] cs rfl rfl (World.ownsRow_nil _ _ _ _) HS.out HC.out (by unfold maxLen; omega) (by omega) (Nat.le_refl _) ?_; intro v' w1 ho1 hg1 hat1)
  go_ret
  refine ⟨v', rfl, by simpa using ho1, (Below.refl _ _).grown hg1 (Nat.le_refl _) (fun k hk => by simp [Value.ownBlock] at hk)⟩

theorem add_mid0 (g off j : Nat) : (⟨g, off, none⟩ : Addr).add j = ⟨g, off + j, none⟩ := by unfold Addr.add; split <;> simp_all
theorem own_form {w : World} {B e size n : Nat} {v : Value} {xs : List Value} (h : w.ownsRow B e size v n xs) : ∃ o c, v = .slice o n c ∧ n ≤ c ∧ (o = none → c = 0) ∧ (0 < n → ∃ g, o = some ⟨g, 0, none⟩) := by
  rcases h.2 with ⟨rfl, rfl⟩ | ⟨g, cap, cur, rfl, _, _, h1, _⟩
  · exact ⟨none, 0, rfl, by omega, fun _ => rfl, by omega⟩
  · exact ⟨_, cap, rfl, h1, (fun h => by cases h), fun _ => ⟨g, rfl⟩⟩
/-- All of a row; its first k; what is behind them. -/
theorem own_src {w : World} {B e z n c : Nat} {o : Option Addr} {xs : List Value} (h : w.ownsRow B e z (.slice o n c) n xs) (h1 : ∀ c ∈ xs, c.oneCell' = true) : Src z w o n xs ∧ (o = none → c = 0) := by
  have h' := h
  rcases h.2 with ⟨he, h0⟩ | ⟨g, cap, cur, he, _⟩
  · injection he with e1 e2 e3
    subst e1 e3
    exact ⟨⟨h.1, h1, fun _ => h0, fun ad ho => by cases ho⟩, fun _ => rfl⟩
  · injection he with e1 e2 e3
    subst e1 e3
    exact ⟨⟨h.1, h1, (fun h => by cases h), fun ad ho j u hu => by
      obtain rfl : _ = ad := Option.some.inj ho
      exact World.ownsRow.cells h' (g := g) rfl j u hu⟩, fun h => by cases h⟩
theorem own_take {w : World} {B e z n c g : Nat} {xs : List Value} (h : w.ownsRow B e z (.slice (some ⟨g, 0, none⟩) n c) n xs) (h1 : ∀ c ∈ xs, c.oneCell' = true) (k : Nat) (hk : k ≤ n) : Src z w (some ⟨g, 0, none⟩) k (xs.take (k * z)) :=
  ⟨by rw [List.length_take, h.1]; exact Nat.min_eq_left (Nat.mul_le_mul_right z hk), fun c hc => h1 c (List.mem_of_mem_take hc), (fun h => by cases h), fun ad ho j u hu => by
    obtain rfl : _ = ad := Option.some.inj ho
    rw [List.getElem?_take] at hu
    split at hu
    · exact World.ownsRow.cells h (g := g) rfl j u hu
    · cases hu⟩
theorem own_drop {w : World} {B e z n c g : Nat} {xs : List Value} (h : w.ownsRow B e z (.slice (some ⟨g, 0, none⟩) n c) n xs) (h1 : ∀ c ∈ xs, c.oneCell' = true) (k : Nat) (hk : k ≤ n) (hn : n ≤ c) : Src z w (some (if c = k then ⟨g, 0, none⟩ else ⟨g, k * z, none⟩)) (n - k) (xs.drop (k * z)) := by
  have hl : (xs.drop (k * z)).length = (n - k) * z := by rw [List.length_drop, h.1, Nat.sub_mul]
  by_cases he : c = k
  · have h0 : n - k = 0 := by omega
    rw [if_pos he]
    refine ⟨hl, fun c hc => h1 c (List.mem_of_mem_drop hc), fun _ => h0, fun ad ho j u hu => ?_⟩
    rw [h0, Nat.zero_mul] at hl
    rw [List.eq_nil_of_length_eq_zero hl] at hu
    simp at hu
  · rw [if_neg he]
    refine ⟨hl, fun c hc => h1 c (List.mem_of_mem_drop hc), (fun h => by cases h), fun ad ho j u hu => ?_⟩
    obtain rfl : _ = ad := Option.some.inj ho
    rw [List.getElem?_drop] at hu
    have := World.ownsRow.cells h (g := g) rfl (k * z + j) u hu
    rw [add_mid0] at this ⊢
    rw [Nat.zero_add] at this
    exact this

theorem slice_to (o : Option Addr) (n cap k : Nat) (w : World) (hk : k ≤ cap) :
    (Instr.slice 35 (.slice o n cap) none (some (.int .i64 (k : Int))) none).run Try.prog w = .ok (.slice o k cap) w := by
  have h1 : (0 : Int) ≤ (k : Int) ∧ (k : Int) ≤ (cap : Int) := by omega
  have h2 : (if cap = 0 then o else o.map (·.add 0)) = o := by
    split
    · rfl
    · cases o <;> simp [Addr.add]
  have h3 : (Try.prog.info? 81).map (·.size) = some 2 := by kernel_rfl
  cases hq : Try.prog.info? 81 with
  | none => simp [hq] at h3
  | some i =>
    simp [Instr.slice, Instr.sliceBounds, Instr.sliceBound, run_underlying Try.underlying35, asIntOf, sizeOf, typeInfo, hq, h1, go_sem]
    intro h; omega
theorem slice_from (g n cap k : Nat) (q : Int) (w : World) (hq : q = (k : Int)) (hk : k ≤ n) (hn : n ≤ cap) :
    (Instr.slice 35 (.slice (some ⟨g, 0, none⟩) n cap) (some (.int .i64 q)) none none).run Try.prog w = .ok (.slice (some (if cap = k then ⟨g, 0, none⟩ else ⟨g, k * 2, none⟩)) (n - k) (cap - k)) w := by
  subst hq
  have h1 : (0 : Int) ≤ (k : Int) ∧ (k : Int) ≤ (n : Int) := by omega
  have h3 : (Try.prog.info? 81).map (·.size) = some 2 := by kernel_rfl
  cases hq : Try.prog.info? 81 with
  | none => simp [hq] at h3
  | some i =>
    have hs : i.size = 2 := by simpa [hq] using h3
    by_cases hc : cap = k
    · simp [Instr.slice, Instr.sliceBounds, Instr.sliceBound, run_underlying Try.underlying35, asIntOf, sizeOf, typeInfo, hq, hs, h1, go_sem, hc]
      intro h; omega
    · simp [Instr.slice, Instr.sliceBounds, Instr.sliceBound, run_underlying Try.underlying35, asIntOf, sizeOf, typeInfo, hq, hs, h1, go_sem, hc]
      intro h; omega

/-- What the document keeps of one that is open: where its fragments lie; they; how old it is. -/
structure DE where
  v : Value
  l : List Pk
  age : Int
abbrev ocl (e : DE) : List Value := [e.v, .int .i64 e.age]
def ocells : List DE → List Value
  | [] => []
  | e :: r => ocl e ++ ocells r
theorem ocells_append (l m : List DE) : ocells (l ++ m) = ocells l ++ ocells m := by
  induction l with
  | nil => rfl
  | cons x l ih => simp [ocells, ih]
theorem ocells_length (l : List DE) : (ocells l).length = l.length * 2 := by
  induction l with
  | nil => rfl
  | cons x l ih => simp [ocells, ih]; omega
theorem ocells_take (l : List DE) (k : Nat) : (ocells l).take (k * 2) = ocells (l.take k) := by
  induction l generalizing k with
  | nil => simp [ocells]
  | cons x l ih =>
    cases k with
    | zero => simp [ocells]
    | succ k => rw [show (k + 1) * 2 = k * 2 + 1 + 1 from by omega]; simp [ocells, ih]
theorem ocells_drop (l : List DE) (k : Nat) : (ocells l).drop (k * 2) = ocells (l.drop k) := by
  induction l generalizing k with
  | nil => simp [ocells]
  | cons x l ih =>
    cases k with
    | zero => simp [ocells]
    | succ k => rw [show (k + 1) * 2 = k * 2 + 1 + 1 from by omega]; simp [ocells, ih]
theorem ocells_get : ∀ (L : List DE) (i : Nat) (e : DE), L[i]? = some e → (ocells L)[i * 2]? = some e.v ∧ (ocells L)[i * 2 + 1]? = some (.int .i64 e.age)
  | [], i, e, h => by simp at h
  | x :: L, 0, e, h => by simp at h; subst h; simp [ocells]
  | x :: L, i + 1, e, h => by
    have := ocells_get L i e (by simpa using h)
    rw [show (i + 1) * 2 = i * 2 + 1 + 1 from by omega]
    simpa [ocells] using this
theorem ocells_set : ∀ (L : List DE) (i : Nat) (e : DE) (v : Value) (l : List Pk), L[i]? = some e → (ocells L).set (i * 2) v = ocells (L.set i ⟨v, l, e.age⟩)
  | [], i, e, v, l, h => by simp at h
  | x :: L, 0, e, v, l, h => by simp at h; subst h; simp [ocells]
  | x :: L, i + 1, e, v, l, h => by
    have := ocells_set L i e v l (by simpa using h)
    rw [show (i + 1) * 2 = i * 2 + 1 + 1 from by omega]
    simpa [ocells] using this
theorem prow_one {W : World} {B : Nat} {v : Value} {L : List Pk} (h : PRow W B v L) : v.oneCell' = true := by
  obtain ⟨o, g, c, rfl, _⟩ := h.form
  rfl
/-- The document's table lies at block ub; s is its list. -/
structure UT (W : World) (ub B : Nat) (s : Value) (U : List DE) : Prop where
  box : W.heap[ub]? = some (.cells #[s] 37 (0, 0))
  row : W.ownsRow B 81 2 s U.length (ocells U)
  ls : ∀ e ∈ U, PRow W B e.v e.l
  ns : s.ownBlock ≠ some ub
  nv : ∀ e ∈ U, e.v.ownBlock ≠ some ub ∧ ∀ g, s.ownBlock = some g → e.v.ownBlock ≠ some g
/-- Its blocks. -/
def ublk (ub : Nat) (s : Value) (U : List DE) (k : Nat) : Prop := k = ub ∨ s.ownBlock = some k ∨ ∃ e ∈ U, e.v.ownBlock = some k
section
variable {W W' : World} {ub B : Nat} {s : Value} {U : List DE}
theorem UT.lt (h : UT W ub B s U) : ub < W.heap.size := lt_of_heap h.box
theorem UT.one (h : UT W ub B s U) : ∀ c ∈ ocells U, c.oneCell' = true := by
  have := h.ls
  clear h
  induction U with
  | nil => intro c hc; cases hc
  | cons x U ih =>
    intro c hc
    simp only [ocells, List.mem_append, List.mem_cons, List.not_mem_nil, or_false] at hc
    rcases hc with (rfl | rfl) | hc
    · exact prow_one (this x (by simp))
    · rfl
    · exact ih (fun e he => this e (by simp [he])) c hc
theorem UT.blt (h : UT W ub B s U) : ∀ k, ublk ub s U k → k < W.heap.size := fun k hk => by
  rcases hk with rfl | hk | ⟨e, he, hk⟩
  · exact h.lt
  · exact (h.row.lt k hk).2
  · exact (World.ownsRow.lt (h.ls e he) k hk).2
theorem own_keep {e size n : Nat} {v : Value} {xs : List Value} (h : W.ownsRow B e size v n xs) (hb : ∀ k, v.ownBlock = some k → W'.heap[k]? = W.heap[k]?) : W'.ownsRow B e size v n xs := by
  refine ⟨h.1, ?_⟩
  rcases h.2 with h1 | ⟨g, cap, cur, h1, h2, h3, h4⟩
  · exact .inl h1
  · exact .inr ⟨g, cap, cur, h1, h2, (hb g (by rw [h1]; rfl)).trans h3, h4⟩
theorem UT.keep (h : UT W ub B s U) (hb : ∀ k, ublk ub s U k → W'.heap[k]? = W.heap[k]?) : UT W' ub B s U :=
  ⟨(hb ub (Or.inl rfl)).trans h.box, own_keep h.row fun k hk => hb k (Or.inr (Or.inl hk)), fun e he => own_keep (h.ls e he) fun k hk => hb k (Or.inr (Or.inr ⟨e, he, hk⟩)), h.ns, h.nv⟩
theorem UT.on (h : UT W ub B s U) (hb : Below W.heap.size W W') : UT W' ub B s U := h.keep fun k hk => hb.block k (h.blt k hk)
theorem UT.cell (h : UT W ub B s U) : W.cell? ⟨ub, 0, none⟩ = some s := Joins.cell_of_block h.box 0
theorem UT.free (h : UT W ub B s U) : W.frozen? ⟨ub, 0, none⟩ = false := Joins.unfrozen_of_block h.box 0
end
end Go.Proofs.Ytfnmcnbiahfnfaa
