/-
  Contract of Read (package inq).
-/
import Derived.Test.YthdjdfemckjebaaPt
import Derived.Laws.IdiomStrings
import Derived.Laws.Concat
namespace Go.Proofs.Ythdjdfemckjebaa
open Go.RowKit
set_option linter.unusedVariables false
set_option linter.unusedSimpArgs false

theorem str_list (c : Nat → Option UInt8) (a k : Nat) : (str c a k).data.toList = (List.range k).map fun i => (c (a + i)).getD 0 := by simp [str]
theorem ext_list {a b : ByteArray} (h : a.data.toList = b.data.toList) : a = b := by
  cases a; cases b; congr 1; exact Array.toList_inj.1 h
theorem str_add (c : Nat → Option UInt8) (a k l : Nat) : str c a k ++ str c (a + k) l = str c a (k + l) := by
  apply ext_list
  rw [ByteArray.data_append, Array.toList_append, str_list, str_list, str_list, List.range_add, List.map_append, List.map_map]
  congr 1
  apply List.map_congr_left
  intro i _
  simp [Nat.add_assoc]
theorem wpList_slice_lh {ops : Array Oper} {rest : List Oper} {op : Oper} {a : Act} {w : World} {Q : Exit → Act → World → Prop} (hgd : op.guard = none) (x y z : Operand) (ho : op.op = .slice 53 x (some y) (some z) none)
    (b l h : Nat) (yl zh : Int) (hx : a.eval x = .pointer (some ⟨b, 0, none⟩)) (hy : a.eval y = .int .i64 yl) (hz : a.eval z = .int .i64 zh) (el : yl = (l : Int)) (eh : zh = (h : Int)) (hl : l ≤ h) (hh : h ≤ 2048) (hl2 : l < 2048)
    (hK : wpList Try.prog ops Q rest (a.put op.dst (.slice (some ⟨b, l, none⟩) (h - l) (2048 - l))) w) : wpList Try.prog ops Q (op :: rest) a w :=
  wpList_plain hgd fun K hK' => by
    have hs : (sizeOf 5).run Try.prog w = .ok 1 w := by kernel_rfl
    have ha : Try.prog.arrayLen 53 = 2048 := by kernel_rfl
    have he : Try.prog.elem 53 = 5 := by kernel_rfl
    have e := run_sliceAt_array_lh (P := Try.prog) w 53 ⟨b, 0, none⟩ (by rw [ha, he]; exact Try.underlying53) .i64 .i64 yl zh (by omega) (by omega) (by rw [ha]; omega)
    rw [he, hs, ha] at e
    have e1 : yl.toNat = l := by omega
    have e2 : zh.toNat = h := by omega
    simp only [Result.andThen, slicedAt, e1, e2, Nat.mul_one] at e
    rw [if_neg (by omega)] at e
    have e3 : (⟨b, 0, none⟩ : Addr).add l = ⟨b, l, none⟩ := by simp [Addr.add]; intro h0; exact h0.symm
    rw [e3] at e
    unfold Oper.wp execOp
    simp only [ho, hx, hy, hz, Option.map_some, Option.map_none, Sem.run_bind, Sem.run_pure, Result.andThen_ok, e]
    exact hK' _ _ hK
theorem wpList_slice_h {ops : Array Oper} {rest : List Oper} {op : Oper} {a : Act} {w : World} {Q : Exit → Act → World → Prop} (hgd : op.guard = none) (x z : Operand) (ho : op.op = .slice 53 x none (some z) none)
    (b h : Nat) (zh : Int) (hx : a.eval x = .pointer (some ⟨b, 0, none⟩)) (hz : a.eval z = .int .i64 zh) (eh : zh = (h : Int)) (hh : h ≤ 2048)
    (hK : wpList Try.prog ops Q rest (a.put op.dst (.slice (some ⟨b, 0, none⟩) h 2048)) w) : wpList Try.prog ops Q (op :: rest) a w :=
  wpList_plain hgd fun K hK' => by
    have hs : (sizeOf 5).run Try.prog w = .ok 1 w := by kernel_rfl
    have ha : Try.prog.arrayLen 53 = 2048 := by kernel_rfl
    have he : Try.prog.elem 53 = 5 := by kernel_rfl
    have e := run_sliceAt_array_h (P := Try.prog) w 53 ⟨b, 0, none⟩ (by rw [ha, he]; exact Try.underlying53) .i64 zh (by omega) (by rw [ha]; omega)
    rw [he, hs, ha] at e
    have e2 : zh.toNat = h := by omega
    simp only [Result.andThen, slicedAt, e2, Nat.mul_one, Nat.sub_zero] at e
    rw [if_neg (by omega)] at e
    have e3 : (⟨b, 0, none⟩ : Addr).add 0 = ⟨b, 0, none⟩ := by simp [Addr.add]
    rw [e3] at e
    unfold Oper.wp execOp
    simp only [ho, hx, hz, Option.map_some, Option.map_none, Sem.run_bind, Sem.run_pure, Result.andThen_ok, e]
    exact hK' _ _ hK
section
variable {c : Nat → Option UInt8} {b f n x r g : Nat} {W : World}
/-- A stretch of the ring as a text. -/
theorem OM.text (h : OM b c f n x r g W) (p l k cap : Nat) (hp : f ≤ p) (hk : p + k ≤ n) (hn : n ≤ f + 2048) (hl : 0 < k → p % 2048 = l) (hlk : l + k ≤ 2048) (hs : ∀ p, f ≤ p → p < n → (c p).isSome = true) :
    (convert 64 9 (.slice (some ⟨b, l, none⟩) k cap)).run Try.prog W = .ok (.string (str c p k)) W := by
  obtain ⟨q, hq, kk⟩ := h
  have e := run_convert_bytes_back (P := Try.prog) W 64 9 5 ⟨b, l, none⟩ cap ((List.range k).map fun i => (c (p + i)).getD 0) Try.underlying64 Try.underlying5 Try.underlying9 (fun j hj => by
    have hj : j < k := by simpa using hj
    rw [Addr.add_mid, hq.cBytes _ (by omega), show l + j = (p + j) % 2048 from by have := hl (by omega); omega, kk.ring.byte (by omega) (by omega) (hs _ (by omega) (by omega))]
    simp)
  have el : ((List.range k).map fun i => (c (p + i)).getD 0).length = k := by simp
  rw [el] at e
  exact e
theorem wpList_text {ops : Array Oper} {rest : List Oper} {op : Oper} {a : Act} {w : World} {Q : Exit → Act → World → Prop} (hgd : op.guard = none) (x : Operand) (ho : op.op = .convert 64 9 x) (v : Value) (s : ByteArray) (hx : a.eval x = v)
    (hr : (convert 64 9 v).run Try.prog w = .ok (.string s) w) (hK : wpList Try.prog ops Q rest (a.put op.dst (.string s)) w) : wpList Try.prog ops Q (op :: rest) a w :=
  wpList_plain hgd fun K hK' => by
    unfold Oper.wp execOp
    simp only [ho, hx, Sem.run_bind, Sem.run_pure, Result.andThen_ok, hr]
    exact hK' _ _ hK
theorem OM.setFirst (h : OM b c f n x r g W) (k : Nat) (hk : f + k ≤ n) (hn : n ≤ f + 2048) (hc : ∀ p, (c p).isSome = true → p < f + 2048) (y : Int) (hy : y = ((f + k : Nat) : Int)) : OM b c (f + k) n x r g (W.setCell ⟨b, 4096, none⟩ (.int .i64 y)) := by
  obtain ⟨q, hq, kk⟩ := h
  exact ⟨_, hq.setFirst y, kk.ring.read k hk hn hc y, hy, kk.next, kk.reach, kk.fin⟩
end
section
variable {b : Nat} {t : St} {w : World}
set_option maxHeartbeats 4000000 in
theorem read_any (h : OT b t w) (ok : Ok t) (hf : t.f ≤ 1152921504606846976) (m : Int) (m1 : -9223372036854775808 ≤ m) (m2 : m ≤ 9223372036854775807) (S : ByteArray) (hS : S = str t.c t.f (rk t m)) :
    Calls Try.prog 12 #[.pointer (some ⟨b, 0, none⟩), .int .i64 m] w fun e w' => e = .returned (.string S) ∧ OT b (rd t m) w' ∧ Kp [b] w w' := by
  have HR := Lib.hid (ready_any h ok.lo hf)
  have H := Lib.hid h
  have hk := rk_le ok m
  have hnw := ok.nw
  have HC := Lib.hid (fun p hp => (ok.hi p hp).2)
  have HA := Lib.hid ok.all
  have HRk : Hid ((rk t m : Int) = min (max m 0) (rdy t : Int)) := by show _ = _; have := ok.fn; unfold rk rdy; omega
  have HNx : Hid (nxt (rd t m) = nxt t) := by show _ = _; unfold nxt; rfl
  have hr1 : (0 : Int) ≤ (rdy t : Int) := by omega
  have hr2 : (rdy t : Int) ≤ 2048 := by have := ok.fn; unfold rdy; omega
  have hkk : rk t m ≤ 2048 := rk_2048 ok m
  have hfn := ok.fn
  obtain ⟨a, ha⟩ : ∃ a : Nat, a = t.f % 2048 := ⟨_, rfl⟩
  obtain ⟨K, hK⟩ : ∃ K : Nat, K = rk t m := ⟨_, rfl⟩
  obtain ⟨l1, hl1⟩ : ∃ l1 : Nat, l1 = min (a + K) 2048 - a := ⟨_, rfl⟩
  have HS : Hid (S = str t.c t.f l1 ++ str t.c (t.f + l1) (K - l1)) := by
    show _ = _
    rw [hS, str_add, hK]
    congr 1; omega
  have HKK := Lib.hid hK
  rw [← hK] at hk hkk HRk
  have ha1 : a ≤ t.f % 2048 := by omega
  have ha2 : t.f % 2048 ≤ a := by omega
  have hl1a : l1 ≤ min (a + K) 2048 - a := by omega
  have hl1b : min (a + K) 2048 - a ≤ l1 := by omega
  clear h ok hS hK ha hl1
  go_enter Try.func12, Try.ntmps12
  go_wp2_with fail
  refine HR.out.mono ?_
  rintro e w1 ⟨rfl, hm⟩
  have H1 : Hid (OM b t.c t.f t.n (nxt t) t.r t.e w1) := by obtain ⟨m, rfl⟩ := hm; exact H.out
  have K1 : Hid (Kp [b] w w1) := by obtain ⟨m, rfl⟩ := hm; exact (Kp.refl _ _).drewN _
  have c1 := H1.out.cFirst
  have f1 := H1.out.free 4096
  have T1 := H1.out.text t.f a l1 (2048 - a) (Nat.le_refl _) (by omega) hnw (fun _ => by omega) (by omega) HA.out
  have T2 := H1.out.text (t.f + l1) 0 (K - l1) 2048 (by omega) (by omega) hnw (fun h0 => by omega) (by omega) HA.out
  have HN : Hid (∀ y : Int, y = ((t.f + K : Nat) : Int) → OM b t.c (t.f + K) t.n (nxt t) t.r t.e (w1.setCell ⟨b, 4096, none⟩ (.int .i64 y))) := fun y hy => H1.out.setFirst K hk hnw HC.out y hy
  have KN : Hid (∀ y : Int, Kp [b] w (w1.setCell ⟨b, 4096, none⟩ (.int .i64 y))) := fun y => K1.out.setCell (Or.inl (by simp)) _
  have z1 := str_size t.c t.f l1
  have z2 := str_size t.c (t.f + l1) (K - l1)
  have T1 := Lib.hid T1
  have T2 := Lib.hid T2
  have ta : ∀ w', (Op.stringOp .add (str t.c t.f l1) (str t.c (t.f + l1) (K - l1))).run Try.prog w' = .ok (.string S) w' := fun w' => by rw [HS.out]; exact run_string_add_sum w' _ _ (by omega)
  have HD : Hid (OT b (rd t m) = OM b t.c (t.f + K) t.n (nxt t) t.r t.e) := by show _ = _; unfold OT; rw [HNx.out, HKK.out]; rfl
  clear HR H H1 K1 hm z2 HS
  rename_i hT1 hT2
  clear hT1 hT2
  generalize str t.c t.f l1 = S1 at *
  generalize str t.c (t.f + l1) (K - l1) = S2 at *
  go_wp2_with (first | (refine wpList_slice_lh rfl _ _ _ rfl b a (a + l1) _ _ rfl rfl rfl (by omega) (by have := HRk.out; omega) (by omega) (by omega) (by omega) ?_) | (refine wpList_text rfl _ rfl _ S1 rfl (by rw [Nat.add_sub_cancel_left]; exact T1.out) ?_) | (refine wpList_slice_h rfl _ _ rfl b (K - l1) _ rfl rfl (by have := HRk.out; omega) (by omega) ?_) | (refine wpList_text rfl _ rfl _ S2 rfl T2.out ?_))
  go_ret
  refine ⟨rfl, ?_, KN.out _⟩
  rw [HD.out]
  exact HN.out _ (by have := HRk.out; omega)
end
end Go.Proofs.Ythdjdfemckjebaa
