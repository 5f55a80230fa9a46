/-
  Contract of a node's without (package route).
-/
import Derived.Test.YtchmfbfijglokaaTree
namespace Go.Proofs.Ytchmfbfijglokaa
open Go.RowKit
set_option linter.unusedVariables false

theorem ptr_none {t : LT} (h : (ptrOf t) = .pointer none) : t = .nil := by
  cases t with
  | nil => rfl
  | node => simp [ptrOf] at h

set_option maxHeartbeats 2000000 in
/-- A prefix less below a node. -/
theorem without_any (pa pb : Nat) (hpa : pa < 4294967296) (hpb : pb ≤ 32) (hpm : pa % 2 ^ (32 - pb) = 0) (d : Nat) : ∀ (t : LT) (n : Nat) (w : World), n + d = pb → Tin w t → (blocks t).Nodup → fits t n → hasE pa pb (toL t (pre pa n) n) = true →
    Calls Try.prog 29 #[(ptrOf t), .agg #[.int .u32 pa, .int .i64 pb], .int .i64 n] w fun e w' => ∃ t', e = .returned (ptrOf t') ∧ Wr w w' t t' ∧ fits t' n ∧ toL t' (pre pa n) n = delE pa pb (toL t (pre pa n) n) := by
  induction d with
  | zero =>
    intro t n w hd hin hnd hf hno
    obtain rfl : n = pb := by omega
    cases t with
    | nil => simp [toL, hasE] at hno
    | node k o0 x0 l r =>
      obtain ⟨th, v⟩ := x0
      obtain ⟨h32, hfl, hfr⟩ := hf
      have E : Hid (toL (.node k o0 (false, 0) l r) (pre pa n) n = delE pa n (toL (.node k o0 (th, v) l r) (pre pa n) n)) := del_here hpb hpm hfl hfr
      obtain ⟨pl, hpl⟩ := ptr_form l
      obtain ⟨pr, hpr⟩ := ptr_form r
      have hroot := hin.1
      rw [hpl, hpr] at hroot
      obtain ⟨c0, c1, c2, c3⟩ := node_cells hroot
      obtain ⟨f0, f1, f2, f3⟩ := node_free hroot
      have hlt := lt_of_block hin.1
      have W : Hid (∀ o, Wr w (((w.setCell ⟨k, 2, none⟩ (.bool false)).setCell ⟨k, 3, none⟩ (.int .i64 0)).alloc o) (.node k o0 (th, v) l r) (.node k o0 (false, 0) l r)) := fun o => (Wr.set_here hin hnd (Below.refl _ _)).alloc _
      have HL := Lib.hid hpl
      have HR := Lib.hid hpr
      clear hno hpl hpr hroot
      show Calls Try.prog 29 #[.pointer (some ⟨k, 0, none⟩), .agg #[.int .u32 pa, .int .i64 n], .int .i64 n] w _
      cases pl with
      | some pl =>
        go_enter Try.func29, Try.ntmps29
        go_wp2_with fail
        go_ret
        exact ⟨.node k o0 (false, 0) l r, rfl, W.out _, ⟨hpb, hfl, hfr⟩, E.out⟩
      | none =>
        cases pr with
        | some pr =>
          go_enter Try.func29, Try.ntmps29
          go_wp2_with fail
          go_ret
          exact ⟨.node k o0 (false, 0) l r, rfl, W.out _, ⟨hpb, hfl, hfr⟩, E.out⟩
        | none =>
          go_enter Try.func29, Try.ntmps29
          go_wp2_with fail
          go_ret
          have W := W.out
          have E := E.out
          obtain rfl := ptr_none HL.out
          obtain rfl := ptr_none HR.out
          exact ⟨.nil, rfl, (W _).gone, trivial, E⟩
  | succ d ih =>
    intro t n w hd hin hnd hf hno
    have h31 : n ≤ 31 := by omega
    have HB : Hid (∀ w', Calls Try.prog 35 #[.int .u32 pa, .int .i64 n] w' fun e w'' => e = .returned (.int .u32 (bitAt pa n : Nat)) ∧ w'' = w') := fun w' => bit_any pa n w' hpa (by omega)
    have hne : ((n : Int) == (pb : Int)) = false := by simp; omega
    have hbl := bitAt_lt pa n
    have IH : Hid (∀ (s : LT) (p : Option Addr) (w' : World), (ptrOf s) = .pointer p → Tin w' s → (blocks s).Nodup → fits s (n + 1) → hasE pa pb (toL s (pre pa (n + 1)) (n + 1)) = true →
      Calls Try.prog 29 #[.pointer p, .agg #[.int .u32 pa, .int .i64 pb], .int .i64 ((n : Int) + 1)] w' fun e w'' => ∃ t' q, e = .returned (.pointer q) ∧ Hid ((ptrOf t') = .pointer q ∧ Wr w' w'' s t' ∧ fits t' (n + 1) ∧ toL t' (pre pa (n + 1)) (n + 1) = delE pa pb (toL s (pre pa (n + 1)) (n + 1)))) := by
      intro s p w' hp h1 h2 h3 h4
      have := ih s (n + 1) w' (by omega) h1 h2 h3 h4
      rw [hp, show ((n + 1 : Nat) : Int) = (n : Int) + 1 from by omega] at this
      refine this.mono ?_
      rintro e w'' ⟨t', rfl, hh⟩
      obtain ⟨q, hq⟩ := ptr_form t'
      exact ⟨t', q, by rw [hq], hq, hh⟩
    clear ih
    cases t with
    | nil => simp [toL, hasE] at hno
    | node k o0 x0 l r =>
    obtain ⟨th, v⟩ := x0
    obtain ⟨h32, hfl, hfr⟩ := hf
    obtain ⟨n1, n2, n3, n4, n5⟩ := nodup_node hnd
    obtain ⟨pl, hpl⟩ := ptr_form l
    obtain ⟨pr, hpr⟩ := ptr_form r
    have hroot := hin.1
    rw [hpl, hpr] at hroot
    obtain ⟨c0, c1, c2, c3⟩ := node_cells hroot
    obtain ⟨f0, f1, f2, f3⟩ := node_free hroot
    have hlt := lt_of_block hin.1
    show Calls Try.prog 29 #[.pointer (some ⟨k, 0, none⟩), .agg #[.int .u32 pa, .int .i64 pb], .int .i64 n] w _
    rcases (show bitAt pa n = 0 ∨ bitAt pa n = 1 by omega) with hb0 | hb0
    · have HL : Hid (∀ w' (m : Int), m = (n : Int) + 1 → Below w.heap.size w w' → Calls Try.prog 29 #[.pointer pl, .agg #[.int .u32 pa, .int .i64 pb], .int .i64 m] w' fun e w'' => ∃ q, e = .returned (.pointer q) ∧ w''.cell? ⟨k, 0, none⟩ = some (.pointer pl) ∧ w''.cell? ⟨k, 1, none⟩ = some (.pointer pr) ∧ w''.cell? ⟨k, 2, none⟩ = some (.bool th) ∧ w''.frozen? ⟨k, 0, none⟩ = false ∧
          Hid (∃ t', (ptrOf t') = .pointer q ∧ Wr w' w'' l t' ∧ fits t' (n + 1) ∧ toL t' (pre pa (n + 1)) (n + 1) = delE pa pb (toL l (pre pa (n + 1)) (n + 1)))) := by
        rintro w' m rfl hb
        refine (IH.out l pl w' hpl (hin.2.1.below hb hin.2.1.lt) n1 hfl (by rw [has_low h31 hb0 (by omega) hfr] at hno; exact hno)).mono ?_
        rintro e w'' ⟨t', q, rfl, hh⟩
        have hh := hh.out
        have hr := Wr.root hin hb hh.2.1 n3
        rw [hpl, hpr] at hr
        exact ⟨q, rfl, (node_cells hr).1, (node_cells hr).2.1, (node_cells hr).2.2.1, (node_free hr).1, t', hh⟩
      have HO := Lib.hid hpr
      rw [hb0] at HB
      clear IH hno hpl hpr hroot
      go_enter Try.func29, Try.ntmps29
      go_wp2_with fail
      refine (HB.out _).mono ?_; rintro e w1 ⟨rfl, rfl⟩
      go_wp2_with fail
      go_region_with (go_at_call 29; refine (HL.out _ _ ?_ ?_).mono ?_; (rw [IntKind.wrap_i64]; omega); exact (((Below.refl _ _).alloc (Nat.le_refl _) _).drew); rintro e w2 ⟨q, rfl, g0, go, gt, g1, G⟩)
      all_goals
        obtain ⟨t', hq, hw, hf', he⟩ := G.out
        have W := Lib.hid (Wr.set_left hin hnd (((Below.refl _ _).alloc (Nat.le_refl _) _).drew) hw)
        have E := Lib.hid (del_low (o0 := o0) (k := k) (th := th) (v := v) h31 hb0 (show n < pb by omega) hfr he)
        have F : fits (.node k o0 (th, v) t' r) n := ⟨h32, hf', hfr⟩
        have F := Lib.hid F
        have Q := Lib.hid hq
        clear hq hw hf' he G
        cases th with
        | true =>
          go_wp2_with fail
          go_ret
          have W := W.out
          rw [Q.out] at W
          exact ⟨.node k o0 (true, v) t' r, rfl, W, F.out, E.out⟩
        | false =>
          cases q with
          | some q =>
            cases pr
            all_goals
              go_wp2_with fail
              go_ret
              have W := W.out
              rw [Q.out] at W
              exact ⟨.node k o0 (false, v) t' r, rfl, W, F.out, E.out⟩
          | none =>
            cases pr with
            | some p =>
              go_wp2_with fail
              go_ret
              have W := W.out
              rw [Q.out] at W
              exact ⟨.node k o0 (false, v) t' r, rfl, W, F.out, E.out⟩
            | none =>
              go_wp2_with fail
              go_ret
              have W := W.out
              have E := E.out
              rw [Q.out] at W
              obtain rfl := ptr_none Q.out
              obtain rfl := ptr_none HO.out
              exact ⟨.nil, rfl, W.gone, trivial, E⟩
    · have HL : Hid (∀ w' (m : Int), m = (n : Int) + 1 → Below w.heap.size w w' → Calls Try.prog 29 #[.pointer pr, .agg #[.int .u32 pa, .int .i64 pb], .int .i64 m] w' fun e w'' => ∃ q, e = .returned (.pointer q) ∧ w''.cell? ⟨k, 1, none⟩ = some (.pointer pr) ∧ w''.cell? ⟨k, 0, none⟩ = some (.pointer pl) ∧ w''.cell? ⟨k, 2, none⟩ = some (.bool th) ∧ w''.frozen? ⟨k, 1, none⟩ = false ∧
          Hid (∃ t', (ptrOf t') = .pointer q ∧ Wr w' w'' r t' ∧ fits t' (n + 1) ∧ toL t' (pre pa (n + 1)) (n + 1) = delE pa pb (toL r (pre pa (n + 1)) (n + 1)))) := by
        rintro w' m rfl hb
        refine (IH.out r pr w' hpr (hin.2.2.below hb hin.2.2.lt) n2 hfr (by rw [has_high h31 hb0 (by omega) hfl] at hno; exact hno)).mono ?_
        rintro e w'' ⟨t', q, rfl, hh⟩
        have hh := hh.out
        have hr := Wr.root hin hb hh.2.1 n4
        rw [hpl, hpr] at hr
        exact ⟨q, rfl, (node_cells hr).2.1, (node_cells hr).1, (node_cells hr).2.2.1, (node_free hr).2.1, t', hh⟩
      have HO := Lib.hid hpl
      rw [hb0] at HB
      clear IH hno hpl hpr hroot
      go_enter Try.func29, Try.ntmps29
      go_wp2_with fail
      refine (HB.out _).mono ?_; rintro e w1 ⟨rfl, rfl⟩
      go_wp2_with fail
      go_region_with (go_at_call 29; refine (HL.out _ _ ?_ ?_).mono ?_; (rw [IntKind.wrap_i64]; omega); exact (((Below.refl _ _).alloc (Nat.le_refl _) _).drew); rintro e w2 ⟨q, rfl, g0, go, gt, g1, G⟩)
      all_goals
        obtain ⟨t', hq, hw, hf', he⟩ := G.out
        have W := Lib.hid (Wr.set_right hin hnd (((Below.refl _ _).alloc (Nat.le_refl _) _).drew) hw)
        have E := Lib.hid (del_high (o0 := o0) (k := k) (th := th) (v := v) h31 hb0 (show n < pb by omega) hfl he)
        have F : fits (.node k o0 (th, v) l t') n := ⟨h32, hfl, hf'⟩
        have F := Lib.hid F
        have Q := Lib.hid hq
        clear hq hw hf' he G
        cases th with
        | true =>
          go_wp2_with fail
          go_ret
          have W := W.out
          rw [Q.out] at W
          exact ⟨.node k o0 (true, v) l t', rfl, W, F.out, E.out⟩
        | false =>
          cases q with
          | some q =>
            cases pl
            all_goals
              go_wp2_with fail
              go_ret
              have W := W.out
              rw [Q.out] at W
              exact ⟨.node k o0 (false, v) l t', rfl, W, F.out, E.out⟩
          | none =>
            cases pl with
            | some p =>
              go_wp2_with fail
              go_ret
              have W := W.out
              rw [Q.out] at W
              exact ⟨.node k o0 (false, v) l t', rfl, W, F.out, E.out⟩
            | none =>
              go_wp2_with fail
              go_ret
              have W := W.out
              have E := E.out
              rw [Q.out] at W
              obtain rfl := ptr_none Q.out
              obtain rfl := ptr_none HO.out
              exact ⟨.nil, rfl, W.gone, trivial, E⟩
end Go.Proofs.Ytchmfbfijglokaa
