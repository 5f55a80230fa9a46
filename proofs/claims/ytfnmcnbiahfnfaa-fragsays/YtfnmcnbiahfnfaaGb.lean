/-
  Contracts of what holds a fragment against what has come (package frag): endsElsewhere, differs, whole.
-/
import Derived.Test.YtfnmcnbiahfnfaaGa
namespace Go.Proofs.Ytfnmcnbiahfnfaa
open Go.RowKit
set_option linter.unusedVariables false
set_option linter.unusedSimpArgs false

/-- Does p end elsewhere than what has come? -/
def gends (g : Gm) (p : Pk) : Bool := (g.closed && decide ((g.reach : Int) < fend p)) || (!p.more && decide (fend p < (g.reach : Int)))

set_option maxHeartbeats 1000000 in
theorem ends_any (b : Nat) (g : Gm) (p : Pk) (w : World) (hG : GB b g w) (h : chk p = 0) :
    Calls Try.prog 38 #[.pointer (some ⟨b, 0, none⟩), pv p] w fun e w' => e = .returned (.bool (gends g p)) ∧ Below w.heap.size w w' := by
  obtain ⟨_, _, _, ho, hs⟩ := chk_zero h
  have HE : Hid (∀ w', Calls Try.prog 37 #[pv p] w' fun e w'' => e = .returned (.int .i64 (fend p)) ∧ Below w'.heap.size w' w'') := fun w' => endOf_any p w' ho (by omega)
  have HG : Hid (gends g p = ((g.closed && decide ((g.reach : Int) < fend p)) || (!p.more && decide (fend p < (g.reach : Int))))) := rfl
  have b0 : Below w.heap.size w (w.alloc (.cells (pc p) 24)) := (Below.refl _ _).alloc (Nat.le_refl _) _
  generalize gends g p = X at *
  generalize fend p = E at *
  have G0 := Lib.hid (hG.alloc (.cells (pc p) 24))
  clear h ho hs hG
  obtain ⟨src, dst, proto, ttl, id, dont, more, off, body⟩ := p
  have P0 := Lib.hid (PB.new w ⟨src, dst, proto, ttl, id, dont, more, off, body⟩)
  obtain ⟨left, bytes, there, many, reach, closed, gdont, gttl⟩ := g
  simp only at HG
  go_enter Try.func38, Try.ntmps38
  go_wp2_with fail
  refine (HE.out _).mono ?_; rintro e w1 ⟨rfl, hb1⟩
  have G1 := Lib.hid (G0.out.keep hb1)
  have P1 := Lib.hid (P0.out.keep hb1)
  have c1 := G1.out.cClosed
  have c2 := G1.out.cReach
  have x6 := P1.out.c6
  simp only at c1 c2 x6
  have b1 := b0.trans (hb1.mono (by simp))
  clear G0 P0 b0 hb1
  cases closed <;> cases more <;> by_cases h1 : (reach : Int) < E <;> by_cases h2 : E < (reach : Int)
  all_goals
    first
    | (exfalso; omega)
    | (go_wp2_with fail
       go_ret
       exact ⟨ret_bool (by rw [HG.out]; simp [h1, h2]), b1⟩)

/-- Does p have a byte that is there, and is another one? -/
def gdiff (g : Gm) (p : Pk) (n : Nat) : Bool := (List.range n).any fun j => g.there (p.off.toNat * 8 + j) && (g.bytes (p.off.toNat * 8 + j) != p.body.data.toList.getD j 0)
theorem gdiff_succ (g : Gm) (p : Pk) (n : Nat) : gdiff g p (n + 1) = (gdiff g p n || (g.there (p.off.toNat * 8 + n) && (g.bytes (p.off.toNat * 8 + n) != p.body.data.toList.getD n 0))) := by
  unfold gdiff; rw [List.range_succ, List.any_append]; simp
theorem u8_ne (a b : UInt8) : ((a.toNat : Int) != (b.toNat : Int)) = (a != b) := by
  rw [Bool.eq_iff_iff]
  simp only [bne_iff_ne, ne_eq]
  constructor
  · intro h e; exact h (by rw [e])
  · intro h e; exact h (UInt8.toNat_inj.1 (by omega))

theorem getD_data (s : ByteArray) (k : Nat) (h : k < s.size) : s.data.toList.getD k 0 = s[k] := by
  rw [List.getD_eq_getElem?_getD, List.getElem?_eq_getElem (by rw [← Lib.size_eq]; exact h), Option.getD_some]; rfl
theorem index_at (s : ByteArray) (k : Nat) (h : k < s.size) (w : World) : (Instr.index 9 (.string s) (.int .i64 (k : Int))).run Try.prog w = .ok (.int .u8 ((s.data.toList.getD k 0).toNat : Int)) w := by
  have := run_index_string (P := Try.prog) (w := w) 9 s .i64 (k : Int) Try.underlying9
  rw [getD_data s k h, this]
  simp [h]

set_option maxHeartbeats 2000000 in
theorem differs_any (b : Nat) (g : Gm) (p : Pk) (w : World) (hG : GB b g w) (h : chk p = 0) (h4 : fend p ≤ 4000) :
    Calls Try.prog 39 #[.pointer (some ⟨b, 0, none⟩), pv p] w fun e w' => e = .returned (.bool (gdiff g p p.body.size)) ∧ Below w.heap.size w w' := by
  obtain ⟨_, _, _, ho, hs⟩ := chk_zero h
  unfold fend at h4
  have b0 : Below w.heap.size w (w.alloc (.cells (pc p) 24)) := (Below.refl _ _).alloc (Nat.le_refl _) _
  have G0 := Lib.hid (hG.alloc (.cells (pc p) 24))
  have P0 := Lib.hid (PB.new w p)
  obtain ⟨o, hoo⟩ := Int.eq_ofNat_of_zero_le ho.1
  have HS : ∀ n, gdiff g p (n + 1) = (gdiff g p n || (g.there (o * 8 + n) && (g.bytes (o * 8 + n) != p.body.data.toList.getD n 0))) := fun n => by
    have := gdiff_succ g p n
    rwa [hoo, Int.toNat_natCast] at this
  have H0 : gdiff g p 0 = false := rfl
  have x7 := P0.out.c7
  have x8 := P0.out.c8
  rw [hoo] at x7
  have HO := Lib.hid hoo
  rw [hoo] at h4
  generalize hD : gdiff g p = D at *
  have HD := Lib.hid hD
  have HSS := Lib.hid HS
  clear h ho hG hoo hD HS
  go_enter Try.func39, Try.ntmps39
  go_wp2_with fail
  go_loopw [13] (fun i W => ∃ k : Nat, k ≤ p.body.size ∧ i = .int .i64 k ∧ D k = false ∧ GB b g W ∧ PB w.heap.size p W ∧ Below w.heap.size w W) (fun i _ => p.body.size - (intOf i).toNat)
  case atStart => exact ⟨0, Nat.zero_le _, rfl, H0, G0.out, P0.out, b0⟩
  case round =>
    obtain ⟨k, hk, rfl, hDk, hG, hP, hb⟩ := hrel
    have G := Lib.hid hG
    have P := Lib.hid hP
    have y8 := hP.c8
    clear hG hP
    by_cases hlt : k < p.body.size
    · have c1 := G.out.cThere (o * 8 + k) (by omega)
      have c2 := G.out.cBytes (o * 8 + k) (by omega)
      have hix : ∀ w', (Instr.index 9 (.string p.body) (.int .i64 (k : Int))).run Try.prog w' = .ok (.int .u8 ((p.body.data.toList.getD k 0).toNat : Int)) w' := fun w' => index_at _ _ hlt w'
      have HN := Lib.hid (HSS.out k)
      generalize g.bytes (o * 8 + k) = B1 at *
      generalize p.body.data.toList.getD k 0 = B2 at *
      generalize g.there (o * 8 + k) = T at *
      cases T with
      | false =>
        have HN : Hid (D (k + 1) = false) := by show _ = _; rw [HN.out, hDk]; rfl
        go_wp2_with fail
        go_quiet (fail)
        go_wp2_with fail
        go_roundw
        case rel => exact ⟨k + 1, by omega, by go_num, HN.out, G.out, P.out, ⟨hb.os, hb.tape, hb.output, hb.size, hb.block⟩⟩
        case measure => simp [intOf]; omega
      | true =>
        by_cases hB : B1 = B2
        · subst hB
          have HN : Hid (D (k + 1) = false) := by show _ = _; rw [HN.out, hDk]; simp
          go_wp2_with fail
          go_quiet (fail)
          go_wp2_with fail
          go_roundw
          case rel => exact ⟨k + 1, by omega, by go_num, HN.out, G.out, P.out, ⟨hb.os, hb.tape, hb.output, hb.size, hb.block⟩⟩
          case measure => simp [intOf]; omega
        · have hne : ((B1.toNat : Int) != (B2.toNat : Int)) = true := by rw [u8_ne]; simpa using hB
          have HX : Hid (D p.body.size = true) := by
            show D p.body.size = true
            have h1 : D (k + 1) = true := by rw [HN.out]; simp [hB]
            have : ∀ m, k + 1 ≤ m → D m = true := fun m hm => by
              induction m with
              | zero => omega
              | succ m ih =>
                rcases Nat.lt_or_ge k m with h2 | h2
                · rw [HSS.out m, ih (by omega)]; rfl
                · rw [show m = k from by omega]; exact h1
            exact this _ (by omega)
          go_wp2_with fail
          go_quiet (fail)
          go_wp2_with fail
          go_ret
          exact ⟨ret_bool HX.out.symm, ⟨hb.os, hb.tape, hb.output, hb.size, hb.block⟩⟩
    · have hlt' : ¬ ((k : Int) < (p.body.size : Int)) := by omega
      obtain rfl : k = p.body.size := by omega
      go_wp2_with fail
      go_ret
      exact ⟨ret_bool (by first | rfl | rw [hDk] | exact hDk.symm), hb⟩

/-- Is all of it there? -/
def gwhole (g : Gm) : Bool := g.closed && decide (g.many = g.reach)
theorem whole_any (b : Nat) (g : Gm) (w : World) (hG : GB b g w) :
    Calls Try.prog 41 #[.pointer (some ⟨b, 0, none⟩)] w fun e w' => e = .returned (.bool (gwhole g)) ∧ Below w.heap.size w w' := by
  have HG : Hid (gwhole g = (g.closed && decide (g.many = g.reach))) := rfl
  have c1 := hG.cClosed
  have c2 := hG.cMany
  have c3 := hG.cReach
  generalize gwhole g = X at *
  cases hc : g.closed with
  | false =>
    rw [hc] at c1
    have hX : X = false := by rw [HG.out, hc]; rfl
    clear hc HG
    go_enter Try.func41, Try.ntmps41
    go_wp2_with fail
    go_quiet (fail)
    go_wp2_with fail
    go_ret
    exact ⟨ret_bool hX.symm, ⟨rfl, rfl, rfl, Nat.le_refl _, fun _ _ => rfl⟩⟩
  | true =>
    rw [hc] at c1
    by_cases hm : g.many = g.reach
    · have hX : X = true := by rw [HG.out, hc]; simp [hm]
      rw [hm] at c2
      clear hc HG hm
      go_enter Try.func41, Try.ntmps41
      go_wp2_with fail
      go_quiet (fail)
      go_wp2_with fail
      go_ret
      exact ⟨ret_bool hX.symm, ⟨rfl, rfl, rfl, Nat.le_refl _, fun _ _ => rfl⟩⟩
    · have hX : X = false := by rw [HG.out, hc]; simp [hm]
      have hm' : ((g.many : Int) == (g.reach : Int)) = false := by rw [beq_eq_false_iff_ne]; omega
      clear hc HG hm
      go_enter Try.func41, Try.ntmps41
      go_wp2_with fail
      go_quiet (fail)
      go_wp2_with fail
      go_ret
      exact ⟨ret_bool hX.symm, ⟨rfl, rfl, rfl, Nat.le_refl _, fun _ _ => rfl⟩⟩
end Go.Proofs.Ytfnmcnbiahfnfaa
