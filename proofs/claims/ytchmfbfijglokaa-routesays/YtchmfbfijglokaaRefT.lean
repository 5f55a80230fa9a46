/-
  The document's table of routes in memory: a list of rows; what append makes of rows; contracts of Copy and at.
-/
import Derived.Test.YtchmfbfijglokaaRefX
import Derived.Test.YtchmfbfijglokaaEq
import Derived.Laws.OwnMore
import Derived.Deep.DrawnRows
namespace Go.Proofs.Ytchmfbfijglokaa
open Go.RowKit
set_option linter.unusedVariables false

/-- The cells of a list of routes. -/
def rcells : List Ent → List Value
  | [] => []
  | x :: r => .int .u32 (x.a : Int) :: .int .i64 (x.b : Int) :: .int .i64 x.v :: rcells r
theorem rcells_append (l m : List Ent) : rcells (l ++ m) = rcells l ++ rcells m := by
  induction l with
  | nil => rfl
  | cons x l ih => simp [rcells, ih]
theorem rcells_length (l : List Ent) : (rcells l).length = l.length * 3 := by
  induction l with
  | nil => rfl
  | cons x l ih => simp [rcells, ih]; omega
theorem rcells_one (l : List Ent) : ∀ c ∈ rcells l, c.oneCell' = true := by
  induction l with
  | nil => intro c hc; cases hc
  | cons x l ih =>
    intro c hc
    simp only [rcells, List.mem_cons] at hc
    rcases hc with rfl | rfl | rfl | hc
    · rfl
    · rfl
    · rfl
    · exact ih c hc
theorem rcells_get : ∀ (L : List Ent) (i : Nat) (e : Ent), L[i]? = some e → (rcells L)[i * 3]? = some (.int .u32 (e.a : Int)) ∧ (rcells L)[i * 3 + 1]? = some (.int .i64 (e.b : Int)) ∧ (rcells L)[i * 3 + 2]? = some (.int .i64 e.v)
  | [], i, e, h => by simp at h
  | x :: L, 0, e, h => by simp at h; subst h; simp [rcells]
  | x :: L, i + 1, e, h => by
    have := rcells_get L i e (by simpa using h)
    rw [show (i + 1) * 3 = i * 3 + 1 + 1 + 1 from by omega]
    simpa [rcells] using this
theorem info67 : (Try.prog.info? 67).map (fun i => (i.zero, i.size, i.bytes)) = some (some (.agg #[.int .u32 0, .int .i64 0, .int .i64 0]), 3, 24) := by kernel_rfl

/-- What append takes from: so many rows from o on. -/
structure Src (W : World) (o : Option Addr) (m : Nat) (cs : List Value) : Prop where
  len : cs.length = m * 3
  one : ∀ c ∈ cs, c.oneCell' = true
  non : o = none → m = 0
  cell : ∀ ad, o = some ad → ∀ j u, cs[j]? = some u → W.cell? (ad.add j) = some u
theorem Src.keep {W W' : World} {o : Option Addr} {m : Nat} {cs : List Value} (h : Src W o m cs) (hb : ∀ ad, o = some ad → ad.block < W.heap.size → W'.heap[ad.block]? = W.heap[ad.block]?) : Src W' o m cs :=
  ⟨h.len, h.one, h.non, fun ad ho j u hu => by
    have hc := h.cell ad ho j u hu
    have hlt : ad.block < W.heap.size := by have := World.block_lt_of_cell? _ _ hc; rwa [show (ad.add j).block = ad.block from by unfold Addr.add; split <;> rfl] at this
    rw [World.cell?_of_block (w := W) (a := ad.add j) (by rw [show (ad.add j).block = ad.block from by unfold Addr.add; split <;> rfl]; exact hb ad ho hlt)]
    exact hc⟩
theorem Src.on {W W' : World} {o : Option Addr} {m : Nat} {cs : List Value} (h : Src W o m cs) (hb : Below W.heap.size W W') : Src W' o m cs := h.keep fun ad _ hlt => hb.block _ hlt

theorem append_src {P : Program} (w : World) (t ty : TypeId) (base : Nat) (e : TypeId) (i : TypeInfo) (z : Value) (bytes : Nat) (ht : P.underlying t = some (.slice e)) (hi : P.info? e = some i) (hz : i.zero = some z)
    (hsize : i.size = 3) (hby : i.bytes = bytes) (hzs : z.cells.size = 3)
    (v : Value) (o : Option Addr) (n m c : Nat) (xs ys : List Value) (hown : w.ownsRow base e 3 v n xs) (hsrc : Src w o m ys) (hc : o = none → c = 0)
    (h63 : n + m ≤ maxLen) (hbytes : (n + m) * bytes ≤ 140737488355328) (hbase : base ≤ w.heap.size) :
    ∃ v' w', (Builtin.append_ #[t, t] ty #[v, .slice o m c]).run P w = .ok v' w' ∧ w'.ownsRow base e 3 v' (n + m) (xs ++ ys) ∧ w.grownBy w' v.ownBlock := by
  cases o with
  | none =>
    obtain rfl := hsrc.non rfl
    obtain rfl := hc rfl
    have hy : ys = [] := by have := hsrc.len; simpa using this
    subst hy
    exact ⟨v, w, run_append_owned_none (P := P) (w := w) base t ty e i 3 ht hi v n xs hown, by simpa using hown, ⟨rfl, rfl, rfl, Nat.le_refl _, fun _ _ _ => rfl⟩⟩
  | some ad =>
    obtain ⟨v', w', h1', h2', h3', _⟩ := run_append_own (P := P) (w := w) base t ty e i z 3 bytes ht hi hz hsize hby hzs (by omega) v n xs hown ad m c ys hsrc.len (hsrc.cell ad rfl) hsrc.one h63 hbytes hbase
    exact ⟨v', w', h1', h2', h3'⟩
/-- As a step of a region that draws. -/
theorem step_src {P : Program} (w : World) {ops : Array Oper} {op : Oper} {a : Act} {K : Act → World → Prop} {Q : Exit → Act → World → Prop} {E : Prop} (hgd : op.guard = none) (s x : Operand) (t : TypeId)
    (hop : op.op = .call { callee := .builtin .append, args := #[s, x], argTypes := #[t, t] }) (base : Nat) (e : TypeId) (i : TypeInfo) (z : Value) (bytes : Nat) (ht : P.underlying t = some (.slice e)) (hi : P.info? e = some i) (hz : i.zero = some z)
    (hsize : i.size = 3) (hby : i.bytes = bytes) (hzs : z.cells.size = 3)
    (v : Value) (o : Option Addr) (n m c : Nat) (xs ys : List Value) (hs : a.eval s = v) (hx : a.eval x = .slice o m c) (hown : w.ownsRow base e 3 v n xs) (hsrc : Src w o m ys) (hc : o = none → c = 0)
    (h63 : n + m ≤ maxLen) (hbytes : (n + m) * bytes ≤ 140737488355328) (hbase : base ≤ w.heap.size)
    (h : ∀ v' w', w'.ownsRow base e 3 v' (n + m) (xs ++ ys) → w.grownBy w' v.ownBlock → K (a.put op.dst v') w') :
    if Region.wanted op (yielded ops a.tmps) = true then Oper.wp P op a w K Q else E := by
  have hw : Region.wanted op (yielded ops a.tmps) = true := by simp [Region.wanted, hgd]
  rw [if_pos hw]
  obtain ⟨v', w', hr, h2, h3⟩ := append_src (P := P) w t op.type base e i z bytes ht hi hz hsize hby hzs v o n m c xs ys hown hsrc hc h63 hbytes hbase
  unfold Oper.wp execOp
  simp only [hop, resolve, invoke, builtin, Sem.run_bind, Sem.run_pure, Result.andThen_ok, List.map_toArray, List.map_cons, List.map_nil, hs, hx, hr]
  exact h v' w' h2 h3
/-- As one of a plain region's operations. -/
theorem wpList_src {P : Program} (w : World) {ops : Array Oper} {rest : List Oper} {op : Oper} {a : Act} {Q : Exit → Act → World → Prop} (hgd : op.guard = none) (s x : Operand) (t : TypeId)
    (hop : op.op = .call { callee := .builtin .append, args := #[s, x], argTypes := #[t, t] }) (base : Nat) (e : TypeId) (i : TypeInfo) (z : Value) (bytes : Nat) (ht : P.underlying t = some (.slice e)) (hi : P.info? e = some i) (hz : i.zero = some z)
    (hsize : i.size = 3) (hby : i.bytes = bytes) (hzs : z.cells.size = 3)
    (v : Value) (o : Option Addr) (n m c : Nat) (xs ys : List Value) (hs : a.eval s = v) (hx : a.eval x = .slice o m c) (hown : w.ownsRow base e 3 v n xs) (hsrc : Src w o m ys) (hc : o = none → c = 0)
    (h63 : n + m ≤ maxLen) (hbytes : (n + m) * bytes ≤ 140737488355328) (hbase : base ≤ w.heap.size)
    (h : ∀ v' w', w'.ownsRow base e 3 v' (n + m) (xs ++ ys) → w.grownBy w' v.ownBlock → wpList P ops Q rest (a.put op.dst v') w') : wpList P ops Q (op :: rest) a w :=
  wpList_plain hgd fun K hK => by
    obtain ⟨v', w', hr, h2, h3⟩ := append_src (P := P) w t op.type base e i z bytes ht hi hz hsize hby hzs v o n m c xs ys hown hsrc hc h63 hbytes hbase
    unfold Oper.wp execOp
    simp only [hop, resolve, invoke, builtin, Sem.run_bind, Sem.run_pure, Result.andThen_ok, List.map_toArray, List.map_cons, List.map_nil, hs, hx, hr]
    exact hK _ _ (h v' w' h2 h3)

set_option maxHeartbeats 1000000 in
theorem rcopy_any (o : Option Addr) (m c : Nat) (cs : List Value) (w : World) (hsrc : Src w o m cs) (hc : o = none → c = 0) (hm : m ≤ 64) :
    Calls Try.prog 28 #[.slice o m c] w fun e w' => ∃ v, e = .returned v ∧ w'.ownsRow w.heap.size 67 3 v m cs ∧ Below w.heap.size w w' := by
  obtain ⟨i0, hi0, hz0, hz1, hz2⟩ := info_parts info67
  have HS := Lib.hid hsrc
  have HC := Lib.hid hc
  clear hsrc hc
  go_enter Try.func28, Try.ntmps28
  go_wp2_with (at_builtin; refine wpList_src _ rfl _ _ _ rfl w.heap.size 67 i0 _ 24 Try.underlying27 hi0 hz0 hz1 hz2 rfl (.slice none 0 0) o 0 m c [] cs rfl rfl (World.ownsRow_nil _ _ _ _) HS.out HC.out (by unfold maxLen; omega) (by omega) (Nat.le_refl _) ?_; intro v' w1 ho1 hg1)
  go_ret
  refine ⟨v', rfl, by simpa using ho1, (Below.refl _ _).grown hg1 (Nat.le_refl _) (fun k hk => by simp [Value.ownBlock] at hk)⟩

/-- The rows of a list lie in block g. -/
def Row3 (W : World) (o : Option Addr) (g : Nat) (L : List Ent) : Prop :=
  0 < L.length → o = some ⟨g, 0, none⟩ ∧ g < W.heap.size ∧ ∀ i e, L[i]? = some e → W.cell? ⟨g, i * 3, none⟩ = some (.int .u32 (e.a : Int)) ∧ W.cell? ⟨g, i * 3 + 1, none⟩ = some (.int .i64 (e.b : Int)) ∧ W.cell? ⟨g, i * 3 + 2, none⟩ = some (.int .i64 e.v)
theorem Row3.keep {W W' : World} {o : Option Addr} {g : Nat} {L : List Ent} (h : Row3 W o g L) (hz : W.heap.size ≤ W'.heap.size) (hb : 0 < L.length → g < W.heap.size → W'.heap[g]? = W.heap[g]?) : Row3 W' o g L := fun hp => by
  obtain ⟨h1, h2, h3⟩ := h hp
  refine ⟨h1, by omega, fun i e he => ?_⟩
  obtain ⟨h4, h5, h6⟩ := h3 i e he
  exact ⟨(World.cell?_of_block (w := W) (a := ⟨g, i * 3, none⟩) (hb hp h2)).trans h4, (World.cell?_of_block (w := W) (a := ⟨g, i * 3 + 1, none⟩) (hb hp h2)).trans h5, (World.cell?_of_block (w := W) (a := ⟨g, i * 3 + 2, none⟩) (hb hp h2)).trans h6⟩
theorem Row3.on {W W' : World} {o : Option Addr} {g : Nat} {L : List Ent} (h : Row3 W o g L) (hb : Below W.heap.size W W') : Row3 W' o g L := h.keep hb.size fun _ hg => hb.block g hg
/-- The document's table lies at block rb; its rows in block g. -/
structure RT (W : World) (rb : Nat) (o : Option Addr) (g cap : Nat) (L : List Ent) : Prop where
  var : W.heap[rb]? = some (.cells #[.slice o L.length cap] 29 (0, 0))
  row : Row3 W o g L
  ne : 0 < L.length → g ≠ rb
  le : L.length ≤ cap
  nc : o = none → cap = 0
theorem RT.lt {W : World} {rb : Nat} {o : Option Addr} {g cap : Nat} {L : List Ent} (h : RT W rb o g cap L) : rb < W.heap.size := lt_of_block h.var
theorem RT.keep {W W' : World} {rb : Nat} {o : Option Addr} {g cap : Nat} {L : List Ent} (h : RT W rb o g cap L) (hz : W.heap.size ≤ W'.heap.size) (hb : ∀ k, k = rb ∨ (0 < L.length ∧ k = g) → k < W.heap.size → W'.heap[k]? = W.heap[k]?) : RT W' rb o g cap L :=
  ⟨(hb rb (Or.inl rfl) h.lt).trans h.var, h.row.keep hz fun hp hg => hb g (Or.inr ⟨hp, rfl⟩) hg, h.ne, h.le, h.nc⟩
theorem RT.on {W W' : World} {rb : Nat} {o : Option Addr} {g cap : Nat} {L : List Ent} (h : RT W rb o g cap L) (hb : Below W.heap.size W W') : RT W' rb o g cap L := h.keep hb.size fun k _ hk => hb.block k hk
/-- Out of a row of the call's own. -/
theorem RT.mk' {W : World} {rb B : Nat} {v : Value} {L : List Ent} (hv : W.heap[rb]? = some (.cells #[v] 29 (0, 0))) (hown : W.ownsRow B 67 3 v L.length (rcells L)) (hB : rb < B) : ∃ o g cap, v = .slice o L.length cap ∧ RT W rb o g cap L ∧ B ≤ g := by
  have hown' := hown
  rcases hown.2 with ⟨rfl, h0⟩ | ⟨g, cap, cur, rfl, hg, _, hle, _⟩
  · exact ⟨none, B, 0, by rw [h0], ⟨by rw [h0]; exact hv, fun hp => by omega, fun hp => by omega, by omega, fun _ => rfl⟩, Nat.le_refl _⟩
  · refine ⟨_, g, cap, rfl, ⟨hv, fun hp => ⟨rfl, (hown'.lt g rfl).2, fun i e he => ?_⟩, fun hp => by omega, hle, fun h => by cases h⟩, hg⟩
    have hi := (List.getElem?_eq_some_iff.1 he).1
    obtain ⟨h1, h2, h3⟩ := rcells_get L i e he
    rw [hown'.cellAt (i * 3) (by omega), hown'.cellAt (i * 3 + 1) (by omega), hown'.cellAt (i * 3 + 2) (by omega)]
    exact ⟨h1, h2, h3⟩

theorem take_more {L : List Ent} {k : Nat} {e : Ent} (h : L[k]? = some e) : L.take (k + 1) = L.take k ++ [e] := by
  obtain ⟨hk, rfl⟩ := List.getElem?_eq_some_iff.1 h
  exact List.take_succ_eq_append_getElem hk
set_option maxHeartbeats 2000000 in
/-- at: the place of a prefix, or -1. -/
theorem at_any (pa pb : Nat) (rb g cap : Nat) (o : Option Addr) (L : List Ent) (w : World) (h : RT w rb o g cap L) (hn : L.length ≤ 64) :
    Calls Try.prog 27 #[.pointer (some ⟨rb, 0, none⟩), .agg #[.int .u32 pa, .int .i64 pb]] w fun e w' => ((hasE pa pb L = false ∧ e = .returned (.int .i64 (-1))) ∨ ∃ (k : Nat) (x : Ent), L[k]? = some x ∧ x.a = pa ∧ x.b = pb ∧ e = .returned (.int .i64 k)) ∧ Below w.heap.size w w' := by
  have hc := cell_of_one h.var
  have hrl := h.lt
  have HR := Lib.hid h.row
  generalize hN : L.length = n at *
  have HN := Lib.hid hN
  clear h hN
  go_enter Try.func27, Try.ntmps27
  go_wp2_with fail
  go_loopw [12] (fun i W => ∃ k : Nat, k ≤ n ∧ i = .int .i64 k ∧ Hid (hasE pa pb (L.take k) = false) ∧ W.heap[w.heap.size]? = some (.cells #[.int .u32 (pa : Int), .int .i64 (pb : Int)] 34 (0, 0)) ∧ Below w.heap.size w W) (fun i _ => n - (intOf i).toNat)
  case atStart => exact ⟨0, Nat.zero_le _, rfl, by show _ = _; rfl, heap_alloc_new _ _, (Below.refl _ _).alloc (Nat.le_refl _) _⟩
  case round =>
    obtain ⟨k, hk, rfl, HH, hbx, hbel⟩ := hrel
    obtain ⟨b0, b1, _, _⟩ := two_cells hbx
    have HB := Lib.hid hbx
    have hbl := lt_of_block hbx
    clear hbx
    by_cases hlt : k < n
    · obtain ⟨rfl, hgl, hcc⟩ := (HR.out.on hbel) (by rw [HN.out]; omega)
      obtain ⟨e, he⟩ : ∃ e, L[k]? = some e := ⟨L[k]'(by rw [HN.out]; exact hlt), List.getElem?_eq_getElem _⟩
      obtain ⟨c0, c1, c2⟩ := hcc k e he
      have HE := Lib.hid he
      have HS : Hid (¬ (e.a = pa ∧ e.b = pb) → hasE pa pb (L.take (k + 1)) = false) := fun hne => by
        rw [take_more he, hasE_append, HH.out, hasE_none _ _ [e] (by intro y hy; simp at hy; subst hy; exact hne)]; rfl
      clear hcc he
      rcases (show (e.a = pa ∧ e.b = pb) ∨ (e.a = pa ∧ e.b ≠ pb) ∨ e.a ≠ pa by omega) with hk1 | hk1 | hk1
      · obtain ⟨rfl, rfl⟩ := hk1
        go_wp2_with fail
        go_ret
        exact ⟨Or.inr ⟨k, e, HE.out, rfl, rfl, rfl⟩, hbel.alloc hbel.size _⟩
      · obtain ⟨rfl, hk2⟩ := hk1
        have hk3 : ¬ ((e.b : Int) = (pb : Int)) := by omega
        have HS := Lib.hid (HS.out fun h => hk2 h.2)
        go_wp2_with fail
        go_roundw
        case rel => exact ⟨k + 1, by omega, by go_num, HS.out, (Below.heap_alloc _ _ _ hbl).trans HB.out, hbel.alloc hbel.size _⟩
        case measure => simp [intOf]; omega
      · have hk3 : ¬ ((e.a : Int) = (pa : Int)) := by omega
        have HS := Lib.hid (HS.out fun h => hk1 h.1)
        go_wp2_with fail
        go_roundw
        case rel => exact ⟨k + 1, by omega, by go_num, HS.out, (Below.heap_alloc _ _ _ hbl).trans HB.out, hbel.alloc hbel.size _⟩
        case measure => simp [intOf]; omega
    · have htk : L.take k = L := List.take_of_length_le (by rw [HN.out]; omega)
      have HL : Hid (hasE pa pb L = false) := by have := HH.out; rwa [htk] at this
      clear htk HH
      go_wp2_with fail
      go_ret
      exact ⟨Or.inl ⟨HL.out, rfl⟩, hbel⟩
end Go.Proofs.Ytchmfbfijglokaa
