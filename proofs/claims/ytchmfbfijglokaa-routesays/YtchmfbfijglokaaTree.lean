/-
  Contracts of bit, longer and of a node's with (package route).
-/
import Derived.Test.YtchmfbfijglokaaPfx
import Derived.Test.YtchmfbfijglokaaMem
namespace Go.Proofs.Ytchmfbfijglokaa
open Go.RowKit
set_option linter.unusedVariables false

theorem shift_bit (x n : Nat) (hx : x < 4294967296) (hn : n ≤ 31) : x * 2 ^ n % 4294967296 / 2147483648 = bitAt x n := by
  unfold bitAt
  have e1 : (4294967296 : Nat) = 2 ^ n * 2 ^ (32 - n) := by rw [← Nat.pow_add, show n + (32 - n) = 32 from by omega]
  have e2 : (2147483648 : Nat) = 2 ^ n * 2 ^ (31 - n) := by rw [← Nat.pow_add, show n + (31 - n) = 31 from by omega]
  have e3 : 2 ^ (32 - n) = 2 ^ (31 - n) * 2 := by rw [← Nat.pow_succ]; congr 1; omega
  rw [e1, e2, Nat.mul_comm x, Nat.mul_mod_mul_left, Nat.mul_div_mul_left _ _ (Nat.two_pow_pos n), e3, Nat.mod_mul_right_div_self]

theorem bit_any (x n : Nat) (w : World) (hx : x < 4294967296) (hn : n ≤ 31) :
    Calls Try.prog 35 #[.int .u32 x, .int .i64 n] w fun e w' => e = .returned (.int .u32 (bitAt x n : Nat)) ∧ w' = w := by
  have hn0 : ¬ ((n : Int) < 0) := by omega
  have HB : Hid (IntKind.u32.wrap ((x : Int) * 2 ^ n) / 2147483648 = ((bitAt x n : Nat) : Int)) := by
    show _ = _
    rw [← shift_bit x n hx hn, IntKind.wrap_u32]
    simp
  go_enter Try.func35, Try.ntmps35
  go_wp2
  go_ret
  exact ⟨ret_int HB.out, rfl⟩

theorem or_half (a b c : Nat) (hb : b ≤ 31) (hc : c < 2) (ha : a % 2 ^ (32 - b) = 0) : a ||| (c * 2 ^ (31 - b)) = a + c * 2 ^ (31 - b) := by
  have h1 : c * 2 ^ (31 - b) < 2 ^ (32 - b) := by
    have := two_half b hb
    have := Nat.two_pow_pos (31 - b)
    have : c = 0 ∨ c = 1 := by omega
    rcases this with rfl | rfl <;> omega
  obtain ⟨q, rfl⟩ := Nat.dvd_of_mod_eq_zero ha
  rw [Nat.two_pow_add_eq_or_of_lt h1]

set_option maxHeartbeats 1000000 in
theorem longer_any (a b c : Nat) (w : World) (ha : a < 4294967296) (hb : b ≤ 31) (hc : c < 2) (hm : a % 2 ^ (32 - b) = 0) (hs : a + 2 ^ (32 - b) ≤ 4294967296) :
    Calls Try.prog 37 #[.agg #[.int .u32 a, .int .i64 b], .int .i64 c] w fun e w' => e = .returned (.agg #[.int .u32 ((a + c * 2 ^ (31 - b) : Nat) : Int), .int .i64 ((b + 1 : Nat) : Int)]) ∧ Below w.heap.size w w' := by
  have HO : Hid (bits .or .u32 (a : Int) ((c : Int) * 2 ^ (31 - b) % 4294967296) = ((a + c * 2 ^ (31 - b) : Nat) : Int)) := by
    show _ = _
    have h1 : c * 2 ^ (31 - b) < 4294967296 := by
      have := two_half b hb
      have := Nat.two_pow_pos (31 - b)
      have : c = 0 ∨ c = 1 := by omega
      rcases this with rfl | rfl <;> omega
    rw [show (c : Int) * 2 ^ (31 - b) % 4294967296 = ((c * 2 ^ (31 - b) : Nat) : Int) from by
      rw [show (c : Int) * 2 ^ (31 - b) = ((c * 2 ^ (31 - b) : Nat) : Int) from by simp]; omega]
    rw [u32_or_nat _ _ ha h1, or_half a b c hb hc hm]
  go_enter Try.func37, Try.ntmps37
  go_wp2
  go_region
  go_wp2
  exact bodyPost_ret (v := .agg #[.int .u32 (bits .or .u32 (a : Int) ((c : Int) * 2 ^ (31 - b) % 4294967296)), .int .i64 ((b : Int) + 1)]) (by simp [results, Try.results37, go_sem]) rfl ⟨by rw [HO.out]; rfl, (((Below.refl _ _).alloc (Nat.le_refl _) _).alloc (by simp) _).drew⟩

set_option maxHeartbeats 2000000 in
/-- A prefix more below a node: it is laid at its place. -/
theorem with_any (pa pb : Nat) (via : Int) (hpa : pa < 4294967296) (hpb : pb ≤ 32) (hpm : pa % 2 ^ (32 - pb) = 0) (d : Nat) : ∀ (t : LT) (n : Nat) (w : World), n + d = pb → Tin w t → (blocks t).Nodup → fits t n → hasE pa pb (toL t (pre pa n) n) = false →
    Calls Try.prog 24 #[(ptrOf t), .agg #[.int .u32 pa, .int .i64 pb], .int .i64 n, .int .i64 via] w fun e w' => ∃ t', e = .returned (ptrOf t') ∧ Wr w w' t t' ∧ fits t' n ∧ toL t' (pre pa n) n = insE ⟨pa, pb, via⟩ (toL t (pre pa n) n) := by
  induction d with
  | zero =>
    intro t n w hd hin hnd hf hno
    obtain rfl : n = pb := by omega
    cases t with
    | nil =>
      have HE : Hid (toL (.node (w.heap.size + 1) 0 (true, via) .nil .nil) (pre pa n) n = insE ⟨pa, n, via⟩ (toL .nil (pre pa n) n)) := by
        show _ = _
        rw [pre_whole _ _ hpm]; rfl
      show Calls Try.prog 24 #[.pointer none, .agg #[.int .u32 pa, .int .i64 n], .int .i64 n, .int .i64 via] w _
      go_enter Try.func24, Try.ntmps24
      go_wp2_with fail
      go_ret
      refine ⟨.node (w.heap.size + 1) 0 (true, via) .nil .nil, rfl, Wr.new (((Below.refl _ _).alloc (Nat.le_refl _) _).alloc (by simp) _) (by omega) ?_, ⟨hpb, trivial, trivial⟩, HE.out⟩
      simpa using heap_alloc_new (w.alloc (.cells #[.int .u32 (pa : Int), .int .i64 (n : Int)] 34)) (.cells #[.pointer none, .pointer none, .bool true, .int .i64 via] 73)
    | node k o0 x0 l r =>
      obtain ⟨th, v⟩ := x0
      obtain ⟨h32, hfl, hfr⟩ := hf
      obtain rfl : th = false := by rw [has_here hpb hpm hfl hfr] at hno; exact hno
      have HE : Hid (toL (.node k o0 (true, via) l r) (pre pa n) n = insE ⟨pa, n, via⟩ (toL (.node k o0 (false, v) l r) (pre pa n) n)) := ins_here (e := ⟨pa, n, via⟩) hpb hpm hfl hfr
      obtain ⟨c0, c1, c2, c3⟩ := node_cells hin.1
      obtain ⟨f0, f1, f2, f3⟩ := node_free hin.1
      have hlt := lt_of_block hin.1
      clear hno
      show Calls Try.prog 24 #[.pointer (some ⟨k, 0, none⟩), .agg #[.int .u32 pa, .int .i64 n], .int .i64 n, .int .i64 via] w _
      go_enter Try.func24, Try.ntmps24
      go_wp2_with fail
      go_ret
      exact ⟨.node k o0 (true, via) l r, rfl, (Wr.set_here hin hnd (Below.refl _ _)).alloc _, ⟨hpb, hfl, hfr⟩, HE.out⟩
  | succ d ih =>
    intro t n w hd hin hnd hf hno
    have h31 : n ≤ 31 := by omega
    have HB : Hid (∀ w', Calls Try.prog 35 #[.int .u32 pa, .int .i64 n] w' fun e w'' => e = .returned (.int .u32 (bitAt pa n : Nat)) ∧ w'' = w') := fun w' => bit_any pa n w' hpa (by omega)
    have hne : ((n : Int) == (pb : Int)) = false := by simp; omega
    have hbl := bitAt_lt pa n
    have IH : Hid (∀ (s : LT) (p : Option Addr) (w' : World), (ptrOf s) = .pointer p → Tin w' s → (blocks s).Nodup → fits s (n + 1) → hasE pa pb (toL s (pre pa (n + 1)) (n + 1)) = false →
      Calls Try.prog 24 #[.pointer p, .agg #[.int .u32 pa, .int .i64 pb], .int .i64 ((n : Int) + 1), .int .i64 via] w' fun e w'' => ∃ t' q, e = .returned (.pointer q) ∧ Hid ((ptrOf t') = .pointer q ∧ Wr w' w'' s t' ∧ fits t' (n + 1) ∧ toL t' (pre pa (n + 1)) (n + 1) = insE ⟨pa, pb, via⟩ (toL s (pre pa (n + 1)) (n + 1)))) := by
      intro s p w' hp h1 h2 h3 h4
      have := ih s (n + 1) w' (by omega) h1 h2 h3 h4
      rw [hp, show ((n + 1 : Nat) : Int) = (n : Int) + 1 from by omega] at this
      refine this.mono ?_
      rintro e w'' ⟨t', rfl, hh⟩
      obtain ⟨q, hq⟩ := ptr_form t'
      exact ⟨t', q, by rw [hq], hq, hh⟩
    clear ih
    cases t with
    | nil =>
      have hin0 : Tin ((w.alloc (.cells #[.int .u32 (pa : Int), .int .i64 (pb : Int)] 34)).alloc (.cells #[.pointer none, .pointer none, .bool false, .int .i64 0] 73)) (.node (w.heap.size + 1) 0 (false, 0) .nil .nil) := by
        refine ⟨?_, trivial, trivial⟩
        show _ = some (Obj.cells #[.pointer none, .pointer none, .bool false, .int .i64 0] 73 (0, 0))
        simpa using heap_alloc_new (w.alloc (.cells #[.int .u32 (pa : Int), .int .i64 (pb : Int)] 34)) (.cells #[.pointer none, .pointer none, .bool false, .int .i64 0] 73)
      have hb00 : Below w.heap.size w ((w.alloc (.cells #[.int .u32 (pa : Int), .int .i64 (pb : Int)] 34)).alloc (.cells #[.pointer none, .pointer none, .bool false, .int .i64 0] 73)) := ((Below.refl _ _).alloc (Nat.le_refl _) _).alloc (by simp) _
      show Calls Try.prog 24 #[.pointer none, .agg #[.int .u32 pa, .int .i64 pb], .int .i64 n, .int .i64 via] w _
      rcases (show bitAt pa n = 0 ∨ bitAt pa n = 1 by omega) with hb0 | hb0
      · have HL : Hid (∀ w' (m : Int), m = (n : Int) + 1 → Below ((w.alloc (.cells #[.int .u32 (pa : Int), .int .i64 (pb : Int)] 34)).alloc (.cells #[.pointer none, .pointer none, .bool false, .int .i64 0] 73)).heap.size ((w.alloc (.cells #[.int .u32 (pa : Int), .int .i64 (pb : Int)] 34)).alloc (.cells #[.pointer none, .pointer none, .bool false, .int .i64 0] 73)) w' → Calls Try.prog 24 #[.pointer none, .agg #[.int .u32 pa, .int .i64 pb], .int .i64 m, .int .i64 via] w' fun e w'' => ∃ q, e = .returned (.pointer q) ∧ w''.cell? ⟨w.heap.size + 1, 0, none⟩ = some (.pointer none) ∧ w''.frozen? ⟨w.heap.size + 1, 0, none⟩ = false ∧
            Hid (∃ t', (ptrOf t') = .pointer q ∧ Wr w' w'' .nil t' ∧ fits t' (n + 1) ∧ toL t' (pre pa (n + 1)) (n + 1) = insE ⟨pa, pb, via⟩ (toL .nil (pre pa (n + 1)) (n + 1)))) := by
          rintro w' m rfl hb
          refine (IH.out .nil none w' rfl trivial (by simp [blocks]) trivial rfl).mono ?_
          rintro e w'' ⟨t', q, rfl, hh⟩
          have hh := hh.out
          have hr := Wr.root hin0 hb hh.2.1 (by simp [blocks])
          exact ⟨q, rfl, (node_cells hr).1, (node_free hr).1, t', hh⟩
        rw [hb0] at HB
        clear IH hno
        go_enter Try.func24, Try.ntmps24
        go_wp2_with fail
        refine (HB.out _).mono ?_; rintro e w1 ⟨rfl, rfl⟩
        go_wp2_with fail
        go_region_with (go_at_call 24; refine (HL.out _ _ ?_ ?_).mono ?_; (rw [IntKind.wrap_i64]; omega); exact ((Below.refl _ _).drew); rintro e w2 ⟨q, rfl, g0, g1, G⟩)
        all_goals
          go_wp2_with fail
          go_ret
          obtain ⟨t', hq, hw, hf', he⟩ := G.out
          have W := Wr.fresh hb00 (by omega) (Wr.set_left hin0 (by simp [blocks]) ((Below.refl _ _).drew) hw)
          rw [hq] at W
          exact ⟨.node (w.heap.size + 1) 0 (false, 0) t' .nil, rfl, W, ⟨by omega, hf', trivial⟩, (ins_low (l := .nil) (r := .nil) (k := w.heap.size + 1) (th := false) (v := 0) (e := ⟨pa, pb, via⟩) h31 hb0 (by show n < pb; omega) trivial he)⟩
      · have HL : Hid (∀ w' (m : Int), m = (n : Int) + 1 → Below ((w.alloc (.cells #[.int .u32 (pa : Int), .int .i64 (pb : Int)] 34)).alloc (.cells #[.pointer none, .pointer none, .bool false, .int .i64 0] 73)).heap.size ((w.alloc (.cells #[.int .u32 (pa : Int), .int .i64 (pb : Int)] 34)).alloc (.cells #[.pointer none, .pointer none, .bool false, .int .i64 0] 73)) w' → Calls Try.prog 24 #[.pointer none, .agg #[.int .u32 pa, .int .i64 pb], .int .i64 m, .int .i64 via] w' fun e w'' => ∃ q, e = .returned (.pointer q) ∧ w''.cell? ⟨w.heap.size + 1, 1, none⟩ = some (.pointer none) ∧ w''.frozen? ⟨w.heap.size + 1, 1, none⟩ = false ∧
            Hid (∃ t', (ptrOf t') = .pointer q ∧ Wr w' w'' .nil t' ∧ fits t' (n + 1) ∧ toL t' (pre pa (n + 1)) (n + 1) = insE ⟨pa, pb, via⟩ (toL .nil (pre pa (n + 1)) (n + 1)))) := by
          rintro w' m rfl hb
          refine (IH.out .nil none w' rfl trivial (by simp [blocks]) trivial rfl).mono ?_
          rintro e w'' ⟨t', q, rfl, hh⟩
          have hh := hh.out
          have hr := Wr.root hin0 hb hh.2.1 (by simp [blocks])
          exact ⟨q, rfl, (node_cells hr).2.1, (node_free hr).2.1, t', hh⟩
        rw [hb0] at HB
        clear IH hno
        go_enter Try.func24, Try.ntmps24
        go_wp2_with fail
        refine (HB.out _).mono ?_; rintro e w1 ⟨rfl, rfl⟩
        go_wp2_with fail
        go_region_with (go_at_call 24; refine (HL.out _ _ ?_ ?_).mono ?_; (rw [IntKind.wrap_i64]; omega); exact ((Below.refl _ _).drew); rintro e w2 ⟨q, rfl, g0, g1, G⟩)
        all_goals
          go_wp2_with fail
          go_ret
          obtain ⟨t', hq, hw, hf', he⟩ := G.out
          have W := Wr.fresh hb00 (by omega) (Wr.set_right hin0 (by simp [blocks]) ((Below.refl _ _).drew) hw)
          rw [hq] at W
          exact ⟨.node (w.heap.size + 1) 0 (false, 0) .nil t', rfl, W, ⟨by omega, trivial, hf'⟩, (ins_high (l := .nil) (r := .nil) (k := w.heap.size + 1) (th := false) (v := 0) (e := ⟨pa, pb, via⟩) h31 hb0 (by show n < pb; omega) trivial he)⟩
    | node k o0 x0 l r =>
      obtain ⟨th, v⟩ := x0
      obtain ⟨h32, hfl, hfr⟩ := hf
      obtain ⟨n1, n2, n3, n4, n5⟩ := nodup_node hnd
      obtain ⟨pl, hpl⟩ := ptr_form l
      obtain ⟨pr, hpr⟩ := ptr_form r
      have hroot := hin.1
      rw [hpl, hpr] at hroot
      obtain ⟨c0, c1, c2, c3⟩ := node_cells hroot
      obtain ⟨f0, f1, f2, f3⟩ := node_free hroot
      have hlt := lt_of_block hin.1
      show Calls Try.prog 24 #[.pointer (some ⟨k, 0, none⟩), .agg #[.int .u32 pa, .int .i64 pb], .int .i64 n, .int .i64 via] w _
      rcases (show bitAt pa n = 0 ∨ bitAt pa n = 1 by omega) with hb0 | hb0
      · have HL : Hid (∀ w' (m : Int), m = (n : Int) + 1 → Below w.heap.size w w' → Calls Try.prog 24 #[.pointer pl, .agg #[.int .u32 pa, .int .i64 pb], .int .i64 m, .int .i64 via] w' fun e w'' => ∃ q, e = .returned (.pointer q) ∧ w''.cell? ⟨k, 0, none⟩ = some (.pointer pl) ∧ w''.frozen? ⟨k, 0, none⟩ = false ∧
            Hid (∃ t', (ptrOf t') = .pointer q ∧ Wr w' w'' l t' ∧ fits t' (n + 1) ∧ toL t' (pre pa (n + 1)) (n + 1) = insE ⟨pa, pb, via⟩ (toL l (pre pa (n + 1)) (n + 1)))) := by
          rintro w' m rfl hb
          refine (IH.out l pl w' hpl (hin.2.1.below hb hin.2.1.lt) n1 hfl (by rw [has_low h31 hb0 (by omega) hfr] at hno; exact hno)).mono ?_
          rintro e w'' ⟨t', q, rfl, hh⟩
          have hh := hh.out
          have hr := Wr.root hin hb hh.2.1 n3
          rw [hpl, hpr] at hr
          exact ⟨q, rfl, (node_cells hr).1, (node_free hr).1, t', hh⟩
        rw [hb0] at HB
        clear IH hno hpl hpr hroot
        go_enter Try.func24, Try.ntmps24
        go_wp2_with fail
        refine (HB.out _).mono ?_; rintro e w1 ⟨rfl, rfl⟩
        go_wp2_with fail
        go_region_with (go_at_call 24; refine (HL.out _ _ ?_ ?_).mono ?_; (rw [IntKind.wrap_i64]; omega); exact (((Below.refl _ _).alloc (Nat.le_refl _) _).drew); rintro e w2 ⟨q, rfl, g0, g1, G⟩)
        all_goals
          go_wp2_with fail
          go_ret
          obtain ⟨t', hq, hw, hf', he⟩ := G.out
          have W := Wr.set_left hin hnd (((Below.refl _ _).alloc (Nat.le_refl _) _).drew) hw
          rw [hq] at W
          exact ⟨.node k o0 (th, v) t' r, rfl, W, ⟨h32, hf', hfr⟩, ins_low (e := ⟨pa, pb, via⟩) h31 hb0 (by show n < pb; omega) hfr he⟩
      · have HL : Hid (∀ w' (m : Int), m = (n : Int) + 1 → Below w.heap.size w w' → Calls Try.prog 24 #[.pointer pr, .agg #[.int .u32 pa, .int .i64 pb], .int .i64 m, .int .i64 via] w' fun e w'' => ∃ q, e = .returned (.pointer q) ∧ w''.cell? ⟨k, 1, none⟩ = some (.pointer pr) ∧ w''.frozen? ⟨k, 1, none⟩ = false ∧
            Hid (∃ t', (ptrOf t') = .pointer q ∧ Wr w' w'' r t' ∧ fits t' (n + 1) ∧ toL t' (pre pa (n + 1)) (n + 1) = insE ⟨pa, pb, via⟩ (toL r (pre pa (n + 1)) (n + 1)))) := by
          rintro w' m rfl hb
          refine (IH.out r pr w' hpr (hin.2.2.below hb hin.2.2.lt) n2 hfr (by rw [has_high h31 hb0 (by omega) hfl] at hno; exact hno)).mono ?_
          rintro e w'' ⟨t', q, rfl, hh⟩
          have hh := hh.out
          have hr := Wr.root hin hb hh.2.1 n4
          rw [hpl, hpr] at hr
          exact ⟨q, rfl, (node_cells hr).2.1, (node_free hr).2.1, t', hh⟩
        rw [hb0] at HB
        clear IH hno hpl hpr hroot
        go_enter Try.func24, Try.ntmps24
        go_wp2_with fail
        refine (HB.out _).mono ?_; rintro e w1 ⟨rfl, rfl⟩
        go_wp2_with fail
        go_region_with (go_at_call 24; refine (HL.out _ _ ?_ ?_).mono ?_; (rw [IntKind.wrap_i64]; omega); exact (((Below.refl _ _).alloc (Nat.le_refl _) _).drew); rintro e w2 ⟨q, rfl, g0, g1, G⟩)
        all_goals
          go_wp2_with fail
          go_ret
          obtain ⟨t', hq, hw, hf', he⟩ := G.out
          have W := Wr.set_right hin hnd (((Below.refl _ _).alloc (Nat.le_refl _) _).drew) hw
          rw [hq] at W
          exact ⟨.node k o0 (th, v) l t', rfl, W, ⟨h32, hfl, hf'⟩, ins_high (e := ⟨pa, pb, via⟩) h31 hb0 (by show n < pb; omega) hfl he⟩
end Go.Proofs.Ytchmfbfijglokaa
