/-
  Contracts of package inq: New, and what a queue tells of itself.
-/
import Derived.Test.YthdjdfemckjebaaQb
namespace Go.Proofs.Ythdjdfemckjebaa
open Go.RowKit
set_option linter.unusedVariables false
set_option linter.unusedSimpArgs false

/-- A queue's cells: what came, in the ring from f on, waiting from n on; Next is x, furthest r, FIN e. -/
structure QM (q : Qs) (c : Nat → Option UInt8) (f n x r g : Nat) : Prop where
  ring : Ring q c f n
  first : q.first = (f : Int)
  next : q.next = (x : Int)
  reach : q.reach = (r : Int)
  fin : q.fin = (g : Int)
def OM (b : Nat) (c : Nat → Option UInt8) (f n x r g : Nat) (W : World) : Prop := ∃ q, QB b q W ∧ QM q c f n x r g
/-- A queue's cells say t. -/
def OT (b : Nat) (t : St) (W : World) : Prop := OM b t.c t.f t.n (nxt t) t.r t.e W
section
variable {b : Nat} {c : Nat → Option UInt8} {f n x r g : Nat} {t : St} {W W' : World}
theorem OM.lt (h : OM b c f n x r g W) : b < W.heap.size := by obtain ⟨q, h, _⟩ := h; exact h.lt
theorem OM.keep (h : OM b c f n x r g W) (hb : Below W.heap.size W W') : OM b c f n x r g W' := by obtain ⟨q, h, k⟩ := h; exact ⟨q, h.keep hb, k⟩
theorem OM.kp {bs : List Nat} (h : OM b c f n x r g W) (hk : Kp bs W W') (hn : b ∉ bs) : OM b c f n x r g W' := by obtain ⟨q, h, k⟩ := h; exact ⟨q, h.kp hk hn, k⟩
theorem OM.drew (h : OM b c f n x r g W) : OM b c f n x r g W.drew := h
theorem OM.drewN (h : OM b c f n x r g W) (m : Nat) : OM b c f n x r g (W.drewN m) := h
theorem OM.cFirst (h : OM b c f n x r g W) : W.cell? ⟨b, 4096, none⟩ = some (.int .i64 (f : Int)) := by obtain ⟨q, h, k⟩ := h; rw [← k.first]; exact h.cFirst
theorem OM.cNext (h : OM b c f n x r g W) : W.cell? ⟨b, 4097, none⟩ = some (.int .i64 (x : Int)) := by obtain ⟨q, h, k⟩ := h; rw [← k.next]; exact h.cNext
theorem OM.cReach (h : OM b c f n x r g W) : W.cell? ⟨b, 4098, none⟩ = some (.int .i64 (r : Int)) := by obtain ⟨q, h, k⟩ := h; rw [← k.reach]; exact h.cReach
theorem OM.cFin (h : OM b c f n x r g W) : W.cell? ⟨b, 4099, none⟩ = some (.int .i64 (g : Int)) := by obtain ⟨q, h, k⟩ := h; rw [← k.fin]; exact h.cFin
theorem OM.free (h : OM b c f n x r g W) (i : Nat) : W.frozen? ⟨b, i, none⟩ = false := by obtain ⟨q, h, k⟩ := h; exact h.free i
theorem OM.setNext (h : OM b c f n x r g W) (y : Nat) : OM b c f n y r g (W.setCell ⟨b, 4097, none⟩ (.int .i64 (y : Int))) := by obtain ⟨q, h, k⟩ := h; exact ⟨_, h.setNext _, k.ring, k.first, rfl, k.reach, k.fin⟩
theorem OM.setReach (h : OM b c f n x r g W) (y : Nat) : OM b c f n x y g (W.setCell ⟨b, 4098, none⟩ (.int .i64 (y : Int))) := by obtain ⟨q, h, k⟩ := h; exact ⟨_, h.setReach _, k.ring, k.first, k.next, rfl, k.fin⟩
theorem OM.setFin (h : OM b c f n x r g W) (y : Nat) : OM b c f n x r y (W.setCell ⟨b, 4099, none⟩ (.int .i64 (y : Int))) := by obtain ⟨q, h, k⟩ := h; exact ⟨_, h.setFin _, k.ring, k.first, k.next, k.reach, rfl⟩
theorem OM.alloc (h : OM b c f n x r g W) (o : Obj) : OM b c f n x r g (W.alloc o) := by obtain ⟨q, h, k⟩ := h; exact ⟨q, h.alloc o, k⟩
theorem OT.lt (h : OT b t W) : b < W.heap.size := OM.lt h
theorem OT.keep (h : OT b t W) (hb : Below W.heap.size W W') : OT b t W' := OM.keep h hb
theorem OT.kp {bs : List Nat} (h : OT b t W) (hk : Kp bs W W') (hn : b ∉ bs) : OT b t W' := OM.kp h hk hn
theorem OT.drewN (h : OT b t W) (n : Nat) : OT b t (W.drewN n) := OM.drewN h n
theorem OT.alloc (h : OT b t W) (o : Obj) : OT b t (W.alloc o) := OM.alloc h o
end
theorem qt0 : QM qs0 st0.c 1 1 1 1 0 := ⟨fun p h1 h2 => ⟨rfl, fun x hx => by cases hx⟩, rfl, rfl, rfl, rfl⟩

theorem wpList_build_q {ops : Array Oper} {rest : List Oper} {op : Oper} {a : Act} {w : World} {Q : Exit → Act → World → Prop} (hgd : op.guard = none)
    (ho : op.op = .build 56 #[(2, .const (.int .i64 1)), (3, .const (.int .i64 1)), (4, .const (.int .i64 1))])
    (h : wpList Try.prog ops Q rest (a.put op.dst (.agg qz)) w) : wpList Try.prog ops Q (op :: rest) a w :=
  wpList_plain hgd fun K hK => by
    have e := run_build_q w
    unfold Oper.wp execOp
    simp only [ho, Sem.run_bind, Sem.run_pure, Result.andThen_ok, List.map_toArray, List.map_cons, List.map_nil, Act.eval, e]
    exact hK _ _ h
theorem run_box_q (w : World) : (Instr.box 56 (.agg qz)).run Try.prog w = .ok (.pointer (some ⟨w.heap.size, 0, none⟩)) (w.alloc (.cells qz 56)) := by
  simp [Instr.box, newVar, Value.cells, go_sem]
theorem wpList_box_q {ops : Array Oper} {rest : List Oper} {op : Oper} {a : Act} {w : World} {Q : Exit → Act → World → Prop} (hgd : op.guard = none) (x : Operand) (ho : op.op = .box 56 x) (hx : a.eval x = .agg qz)
    (h : wpList Try.prog ops Q rest (a.put op.dst (.pointer (some ⟨w.heap.size, 0, none⟩))) (w.alloc (.cells qz 56))) : wpList Try.prog ops Q (op :: rest) a w :=
  wpList_plain hgd fun K hK => by
    unfold Oper.wp execOp
    simp only [ho, hx, Sem.run_bind, run_box_q w, Result.andThen_ok, Sem.run_pure]
    exact hK _ _ h

theorem new_any (w : World) :
    Calls Try.prog 7 #[] w fun e w' => e = .returned (.pointer (some ⟨w.heap.size, 0, none⟩)) ∧ OT w.heap.size st0 w' ∧ Below w.heap.size w w' := by
  have T0 : Hid (OT w.heap.size st0 (w.alloc (.cells qz 56))) := ⟨qs0, QB.new w, qt0⟩
  have b0 : Below w.heap.size w (w.alloc (.cells qz 56)) := (Below.refl _ _).alloc (Nat.le_refl _) _
  go_enter Try.func7, Try.ntmps7
  go_wp2_with (first | (refine wpList_build_q rfl rfl ?_) | (refine wpList_box_q rfl _ rfl rfl ?_))
  go_ret
  exact ⟨rfl, T0.out, b0⟩
section
variable {b : Nat} {c : Nat → Option UInt8} {f n x r g : Nat} {w : World}
theorem next_raw (h : OM b c f n x r g w) :
    Calls Try.prog 14 #[.pointer (some ⟨b, 0, none⟩)] w fun e w' => e = .returned (.int .i64 (x : Int)) ∧ w' = w := by
  have c1 := h.cNext
  clear h
  generalize (x : Int) = n at *
  go_enter Try.func14, Try.ntmps14
  go_wp2_with fail
  go_ret
  exact ⟨rfl, rfl⟩
theorem over_raw (h : OM b c f n x r g w) (o : Bool) (HO : o = (decide (0 < g) && decide (g < x))) :
    Calls Try.prog 20 #[.pointer (some ⟨b, 0, none⟩)] w fun e w' => e = .returned (.bool o) ∧ ∃ m, w' = w.drewN m := by
  have c1 := h.cNext
  have c2 := h.cFin
  have HO : Hid (o = (decide ((0 : Int) < (g : Int)) && decide ((g : Int) < (x : Int)))) := by
    show _ = _
    rw [HO]; congr 1 <;> rw [decide_eq_decide] <;> omega
  have he0 : (0 : Int) ≤ (g : Int) := by omega
  clear h
  rename_i HO0
  clear HO0
  generalize (x : Int) = n at *
  generalize (g : Int) = e at *
  by_cases h1 : (0 : Int) < e
  · have d1 : decide (0 < e) = true := decide_eq_true h1
    by_cases h2 : e < n
    · have d2 : decide (e < n) = true := decide_eq_true h2
      obtain rfl : o = true := by rw [HO.out, d1, d2]; rfl
      go_enter Try.func20, Try.ntmps20
      go_wp2_with fail
      go_quiet (fail)
      go_wp2_with fail
      go_ret
      exact ⟨rfl, _, rfl⟩
    · have d2 : decide (e < n) = false := decide_eq_false h2
      obtain rfl : o = false := by rw [HO.out, d1, d2]; rfl
      go_enter Try.func20, Try.ntmps20
      go_wp2_with fail
      go_quiet (fail)
      go_wp2_with fail
      go_ret
      exact ⟨rfl, _, rfl⟩
  · have d1 : decide (0 < e) = false := decide_eq_false h1
    obtain rfl : o = false := by rw [HO.out, d1]; rfl
    go_enter Try.func20, Try.ntmps20
    go_wp2_with fail
    go_quiet (fail)
    go_wp2_with fail
    go_ret
    exact ⟨rfl, _, rfl⟩
theorem ready_raw (h : OM b c f n x r g w) (o : Bool) (HO : o = (decide (0 < g) && decide (g < x))) (R : Int) (hR : R = if o = true then (g : Int) - (f : Int) else (x : Int) - (f : Int)) (hf : f ≤ 2305843009213693952) (he : g ≤ 2305843009213693952) (hx : x ≤ 2305843009213693952) :
    Calls Try.prog 18 #[.pointer (some ⟨b, 0, none⟩)] w fun e w' => e = .returned (.int .i64 R) ∧ ∃ m, w' = w.drewN m := by
  have HV := Lib.hid (over_raw h o HO)
  have H := Lib.hid h
  have b1 : (0 : Int) ≤ (f : Int) := by omega
  have b2 : (f : Int) ≤ 2305843009213693952 := by omega
  have b3 : (0 : Int) ≤ (x : Int) := by omega
  have b4 : (x : Int) ≤ 2305843009213693952 := by omega
  have b5 : (0 : Int) ≤ (g : Int) := by omega
  have b6 : (g : Int) ≤ 2305843009213693952 := by omega
  clear HO h hf he hx
  cases o with
  | true =>
    obtain rfl : R = (g : Int) - (f : Int) := hR
    go_enter Try.func18, Try.ntmps18
    go_wp2_with fail
    refine HV.out.mono ?_
    rintro e w1 ⟨rfl, hm⟩
    have H1 : OM b c f n x r g w1 := by obtain ⟨m, rfl⟩ := hm; exact H.out
    have HM := Lib.hid hm
    have c1 := H1.cFirst
    have c3 := H1.cFin
    clear HV H H1 hm
    go_wp2_with fail
    go_quiet (fail)
    go_wp2_with fail
    go_ret
    obtain ⟨m, rfl⟩ := HM.out
    exact ⟨rfl, _, World.drewN_drewN _ _ _⟩
  | false =>
    obtain rfl : R = (x : Int) - (f : Int) := hR
    go_enter Try.func18, Try.ntmps18
    go_wp2_with fail
    refine HV.out.mono ?_
    rintro e w1 ⟨rfl, hm⟩
    have H1 : OM b c f n x r g w1 := by obtain ⟨m, rfl⟩ := hm; exact H.out
    have HM := Lib.hid hm
    have c1 := H1.cFirst
    have c2 := H1.cNext
    clear HV H H1 hm
    go_wp2_with fail
    go_quiet (fail)
    go_wp2_with fail
    go_ret
    obtain ⟨m, rfl⟩ := HM.out
    exact ⟨rfl, _, World.drewN_drewN _ _ _⟩
theorem window_raw (h : OM b c f n x r g w) (o : Bool) (HO : o = (decide (0 < g) && decide (g < x))) (R : Int) (hR : R = if o = true then (g : Int) - (f : Int) else (x : Int) - (f : Int)) (hf : f ≤ 2305843009213693952) (he : g ≤ 2305843009213693952) (hx : x ≤ 2305843009213693952) (V : Int) (hV : V = 2048 - R) :
    Calls Try.prog 16 #[.pointer (some ⟨b, 0, none⟩)] w fun e w' => e = .returned (.int .i64 V) ∧ ∃ m, w' = w.drewN m := by
  have HV := Lib.hid (ready_raw h o HO R hR hf he hx)
  have h1 : -2305843009213693952 ≤ R ∧ R ≤ 2305843009213693952 := by rw [hR]; split <;> omega
  obtain ⟨h1, h2⟩ := h1
  subst hV
  clear h HO hR hf he hx
  go_enter Try.func16, Try.ntmps16
  go_wp2_with fail
  refine HV.out.mono ?_
  rintro e w1 ⟨rfl, hm⟩
  have HM := Lib.hid hm
  clear hm HV
  go_wp2_with fail
  go_ret
  exact ⟨rfl, HM.out⟩
theorem edge_raw (h : OM b c f n x r g w) (o : Bool) (HO : o = (decide (0 < g) && decide (g < x))) (R : Int) (hR : R = if o = true then (g : Int) - (f : Int) else (x : Int) - (f : Int)) (hf : f ≤ 2305843009213693952) (he : g ≤ 2305843009213693952) (hx : x ≤ 2305843009213693952) (E : Int) (hE : E = x + (2048 - R)) :
    Calls Try.prog 31 #[.pointer (some ⟨b, 0, none⟩)] w fun e w' => e = .returned (.int .i64 E) ∧ ∃ m, w' = w.drewN m := by
  obtain ⟨V, hV⟩ : ∃ V, V = 2048 - R := ⟨_, rfl⟩
  have HV : Hid (∀ m, Calls Try.prog 16 #[.pointer (some ⟨b, 0, none⟩)] (w.drewN m) fun e w' => e = .returned (.int .i64 V) ∧ ∃ m', w' = (w.drewN m).drewN m') := fun m => window_raw (h.drewN m) o HO R hR hf he hx V hV
  have h1 : -2305843009213693952 ≤ R ∧ R ≤ 2305843009213693952 := by rw [hR]; split <;> omega
  obtain ⟨h1, h2⟩ := h1
  have b3 : (0 : Int) ≤ (x : Int) := by omega
  have b4 : (x : Int) ≤ 2305843009213693952 := by omega
  have c2 := h.cNext
  rw [← hV] at hE
  subst hE
  have b5 : -2305843009213693952 ≤ V ∧ V ≤ 2305843009213696000 := by omega
  obtain ⟨b5, b6⟩ := b5
  clear h HO hR hf he hx hV h1 h2
  go_enter Try.func31, Try.ntmps31
  go_wp2_with fail
  go_quiet ((go_at_call 16; exact Calls.quiet_of (HV.out _)))
  go_wp2_with fail
  go_ret
  exact ⟨rfl, _, rfl⟩
end

/-- What the getters need. -/
structure Lo (t : St) : Prop where
  f1 : 1 ≤ t.f
  fn : t.f ≤ t.n
  nw : t.n ≤ t.f + 2048
  ee : t.e = 0 ∨ (t.n ≤ t.e ∧ t.e ≤ t.f + 2048)
theorem Ok.lo {t : St} (h : Ok t) : Lo t := ⟨h.f1, h.fn, h.nw, by rcases h.ee with e | ⟨a, b, _⟩; exact Or.inl e; exact Or.inr ⟨a, b⟩⟩
theorem over_nxt {t : St} (lo : Lo t) : over t = (decide (0 < t.e) && decide (t.e < nxt t)) := by
  have h1 := lo.ee
  unfold nxt
  cases ho : over t with
  | true =>
    unfold over at ho
    rw [decide_eq_true_eq] at ho
    rw [decide_eq_true (by omega), decide_eq_true (by simp; omega)]; rfl
  | false =>
    have := over_false ho
    rcases Nat.eq_zero_or_pos t.e with he | he
    · rw [he]; simp
    · rw [decide_eq_true (by omega), decide_eq_false (by simp; omega)]; rfl
theorem rdy_nxt {t : St} (lo : Lo t) : (rdy t : Int) = if over t = true then (t.e : Int) - (t.f : Int) else (nxt t : Int) - (t.f : Int) := by
  have := lo.fn
  unfold rdy nxt
  cases ho : over t with
  | true =>
    unfold over at ho
    rw [decide_eq_true_eq] at ho
    simp; omega
  | false => simp; omega
theorem nxt_le (t : St) : nxt t ≤ t.n + 1 := by unfold nxt; split <;> omega
section
variable {b : Nat} {t : St} {w : World}
theorem next_any (h : OT b t w) : Calls Try.prog 14 #[.pointer (some ⟨b, 0, none⟩)] w fun e w' => e = .returned (.int .i64 (nxt t : Int)) ∧ w' = w := next_raw h
theorem over_any (h : OT b t w) (lo : Lo t) : Calls Try.prog 20 #[.pointer (some ⟨b, 0, none⟩)] w fun e w' => e = .returned (.bool (over t)) ∧ ∃ m, w' = w.drewN m := over_raw h _ (over_nxt lo)
theorem ready_any (h : OT b t w) (lo : Lo t) (hf : t.f ≤ 1152921504606846976) : Calls Try.prog 18 #[.pointer (some ⟨b, 0, none⟩)] w fun e w' => e = .returned (.int .i64 (rdy t : Int)) ∧ ∃ m, w' = w.drewN m :=
  ready_raw h _ (over_nxt lo) _ (rdy_nxt lo) (by omega) (by have := lo.ee; have := lo.nw; omega) (by have := nxt_le t; have := lo.nw; omega)
theorem wnd_rdy {t : St} (lo : Lo t) : wnd t = 2048 - (rdy t : Int) := by have := lo.fn; unfold wnd rdy; omega
theorem window_any (h : OT b t w) (lo : Lo t) (hf : t.f ≤ 1152921504606846976) : Calls Try.prog 16 #[.pointer (some ⟨b, 0, none⟩)] w fun e w' => e = .returned (.int .i64 (wnd t)) ∧ ∃ m, w' = w.drewN m :=
  window_raw h _ (over_nxt lo) _ (rdy_nxt lo) (by omega) (by have := lo.ee; have := lo.nw; omega) (by have := nxt_le t; have := lo.nw; omega) _ (wnd_rdy lo)
end
end Go.Proofs.Ythdjdfemckjebaa
