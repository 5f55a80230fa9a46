/-
  Contracts of package conn: the clock, what is asked for, the states.
-/
import Derived.Test.YtnhcjefbiihfjaaCa
import Derived.Deep.AppendLies
import Derived.Laws.OwnMore
namespace Go.Proofs.Ytnhcjefbiihfjaa
open Go.RowKit
open Tc (Sg gchk gv gc)
set_option linter.unusedVariables false
set_option linter.unusedSimpArgs false

section
variable {b k : Nat} {c : Cn} {P : Pt} {w : World}
theorem info22 : (Try.prog.info? 22).map (fun i => (i.zero, i.size, i.bytes)) = some (some (.int .u32 0), 1, 4) := by kernel_rfl
set_option maxHeartbeats 1000000 in
theorem askRst_any (h : CT b c P w) (ok : COk k c) (hk : Few k) (n : Nat) :
    Calls Try.prog 32 #[ptr b, .int .u32 (n : Int)] w fun e w' => e = .returned (.tuple #[]) ∧ ∃ P', CT b (c.ask n) P' w' ∧ Up b P P' w w' := by
  obtain ⟨i0, hi0, hz0, hz1, hz2⟩ := info_parts info22
  have hl := ok.rs
  unfold Few at hk
  have HX : Hid (∀ g cap w2, w2.ownsRow 0 22 1 (.slice (some ⟨g, 0, none⟩) (c.rst.length + 1) cap) (c.rst.length + 1) (rcl c.rst ++ [.int .u32 (n : Int)]) → (w.alloc (.cells #[.int .u32 (n : Int)] 22)).grownBy w2 P.rv.ownBlock → (P.rv.ownBlock = some g ∨ g = w.heap.size + 1) →
      w2.cell? ⟨b, 25, none⟩ = some P.rv ∧ w2.frozen? ⟨b, 25, none⟩ = false ∧ ∃ P', CT b (c.ask n) P' (w2.setCell ⟨b, 25, none⟩ (.slice (some ⟨g, 0, none⟩) (c.rst.length + 1) cap)) ∧ Up b P P' w (w2.setCell ⟨b, 25, none⟩ (.slice (some ⟨g, 0, none⟩) (c.rst.length + 1) cap))) := by
    intro g cap w2 h1 h2 h3
    have h0 : CT b c P (w.alloc (.cells #[.int .u32 (n : Int)] 22)) := h.alloc _
    have hk2 : Kp (rw' P.rv) (w.alloc (.cells #[.int .u32 (n : Int)] 22)) w2 := ⟨h2.os, h2.tape, h2.output, h2.size, fun k hk hn => h2.block k hk (fun e => hn (by simp [rw', ← e]))⟩
    have hb : w2.heap[b]? = (w.alloc (.cells #[.int .u32 (n : Int)] 22)).heap[b]? := h2.block b h0.lt (fun e => h0.ne_rv e.symm h0.blk (by decide) rfl)
    refine ⟨?_, ?_, { P with rv := .slice (some ⟨g, 0, none⟩) (c.rst.length + 1) cap }, ?_, ?_⟩
    · rw [World.cell?_of_block (w := w.alloc (.cells #[.int .u32 (n : Int)] 22)) hb]; exact h0.c25
    · rw [World.frozen?_of_block (w := w.alloc (.cells #[.int .u32 (n : Int)] 22)) hb]; exact h0.free 25
    · refine h0.putR (l := c.rst ++ [n]) ?_ hk2
      rw [rcl_append, List.length_append]; exact h1
    · exact (Up.below ((Below.refl _ _).alloc (Nat.le_refl _) _)).trans (h0.upR hk2 fun g' hg' => by
        have : g = g' := by simpa [Value.ownBlock] using hg'
        rcases h3 with e | e
        · exact Or.inl (by rw [e, this])
        · exact Or.inr (by rw [← this, e]; simp))
  have c25 := h.c25
  have HO : Hid ((w.alloc (.cells #[.int .u32 (n : Int)] 22)).ownsRow 0 22 1 P.rv c.rst.length (rcl c.rst)) := (h.alloc _).rst
  clear h ok
  generalize rcl c.rst = xs at *
  generalize c.rst.length = len at *
  generalize P.rv = rv at *
  go_enter Try.func32, Try.ntmps32
  go_wp2_with (at_builtin; refine wpList_append_lies _ rfl _ _ _ rfl 0 22 i0 _ 1 4 Try.underlying76 hi0 hz0 hz1 hz2 rfl (by omega) rv len xs rfl HO.out ⟨w.heap.size, 0, none⟩ 1 1 [.int .u32 (n : Int)] rfl rfl (World.news_of_block (cs := #[.int .u32 (n : Int)]) (t := 22) (fr := (0, 0)) (heap_alloc_new w _)) (by intro u hu; simp at hu; subst hu; rfl) (by omega) (by unfold maxLen; omega) (by omega) (by simp) (w.heap.size + 1) (by simp) ?_; intro g cap w2 own2 hgrow hat hglt; obtain ⟨d25, f25, P', hT, hU⟩ := HX.out _ _ _ own2 hgrow hat; have HT := Lib.hid hT; have HU := Lib.hid hU; clear hT hU)
  refine bodyPost_end (results_none rfl _ _ _) rfl ?_
  exact ⟨rfl, P', HT.out, HU.out⟩

theorem waits_0 (h : c.st = 0 ∨ c.st = 9) : Cn.waits c = false := by unfold Cn.waits; rw [if_pos h]
theorem waits_1 (h : ¬ (c.st = 0 ∨ c.st = 9)) (h1 : 0 < c.flight) : Cn.waits c = true := by
  unfold Cn.flight at h1
  unfold Cn.waits; rw [if_neg h, decide_eq_true h1]; rfl
theorem waits_2 (h : ¬ (c.st = 0 ∨ c.st = 9)) (h1 : ¬ 0 < c.flight) : Cn.waits c = (decide (c.wnd = 0) && (decide (0 < c.o.u) && decide (c.o.c < Oq.enI c.o))) := by
  unfold Cn.flight at h1
  unfold Cn.waits; rw [if_neg h, decide_eq_false h1]; rfl
set_option maxHeartbeats 1000000 in
theorem isWaiting_any (h : CT b c P w) (ok : COk k c) (hk : Few k) :
    Calls Try.prog 45 #[ptr b] w fun e w' => e = .returned (.bool c.waits) ∧ ∃ m, w' = w.drewN m := by
  have HF : Hid (∀ m, Calls Try.prog 42 #[ptr b] (w.drewN m) fun e w' => e = .returned (.int .i64 c.flight) ∧ ∃ m', w' = (w.drewN m).drewN m') := fun m => flight_any (h.drewN m) ok hk
  have HC : Hid (∀ m, Calls Try.prog 65 #[ptr P.po] (w.drewN m) fun e w' => e = .returned (.int .i64 c.o.c) ∧ w' = w.drewN m) := fun m => Oq.q_cur (h.drewN m).out
  have HU : Hid (∀ m, Calls Try.prog 66 #[ptr P.po] (w.drewN m) fun e w' => e = .returned (.int .i64 c.o.u) ∧ w' = w.drewN m) := fun m => Oq.q_una (h.drewN m).out
  have HE : Hid (∀ m, Calls Try.prog 68 #[ptr P.po] (w.drewN m) fun e w' => e = .returned (.int .i64 (Oq.enI c.o)) ∧ w' = w.drewN m) := fun m => Oq.q_end (h.drewN m).out (by have := ok.oA' hk; omega)
  have c6 := h.c6
  have c10 := h.c10
  have c13 := h.c13
  have H0 : Hid (c.st = 0 ∨ c.st = 9 → c.waits = false) := waits_0
  have H1 : Hid (¬ (c.st = 0 ∨ c.st = 9) → 0 < c.flight → c.waits = true) := waits_1
  have H2 : Hid (¬ (c.st = 0 ∨ c.st = 9) → ¬ 0 < c.flight → c.waits = (decide (c.wnd = 0) && (decide (0 < c.o.u) && decide (c.o.c < Oq.enI c.o)))) := waits_2
  clear h ok hk
  generalize c.waits = V at *
  generalize c.flight = F at *
  generalize c.o.c = x at *
  generalize c.o.u = y at *
  generalize Oq.enI c.o = z at *
  generalize c.st = s at *
  generalize c.wnd = wn at *
  generalize P.po = po at *
  by_cases hs0 : s = 0
  · have HV := Lib.hid (H0.out (Or.inl hs0))
    have d0 : (s == 0) = true := by simpa using hs0
    clear H0 H1 H2 hs0
    go_enter Try.func45, Try.ntmps45
    go_wp2_with fail
    go_ret
    exact ⟨ret_bool HV.out.symm, 0, rfl⟩
  · by_cases hs9 : s = 9
    · have HV := Lib.hid (H0.out (Or.inr hs9))
      have d0 : (s == 0) = false := by simpa using hs0
      have d9 : (s == 9) = true := by simpa using hs9
      clear H0 H1 H2 hs0 hs9
      go_enter Try.func45, Try.ntmps45
      go_wp2_with fail
      go_ret
      exact ⟨ret_bool HV.out.symm, 0, rfl⟩
    · have hs : ¬ (s = 0 ∨ s = 9) := by omega
      have d0 : (s == 0) = false := by simpa using hs0
      have d9 : (s == 9) = false := by simpa using hs9
      by_cases hf : 0 < F
      · have HV := Lib.hid (H1.out hs hf)
        have df : decide (0 < F) = true := decide_eq_true hf
        clear H0 H1 H2 hs0 hs9 hs
        go_enter Try.func45, Try.ntmps45
        go_wp2_with fail
        go_quiet (first | (go_at_call 42; exact Calls.quiet_of (HF.out _)) | (go_at_call 65; exact Calls.quiet_of_same (HC.out _)) | (go_at_call 66; exact Calls.quiet_of_same (HU.out _)) | (go_at_call 68; exact Calls.quiet_of_same (HE.out _)))
        go_wp2_with fail
        go_ret
        exact ⟨ret_bool HV.out.symm, _, rfl⟩
      · have HV := Lib.hid (H2.out hs hf)
        have df : decide (0 < F) = false := decide_eq_false hf
        clear H0 H1 H2 hs0 hs9 hs
        by_cases hw : wn = 0
        · have dw : (wn == 0) = true := by simpa using hw
          have dw' : decide (wn = 0) = true := decide_eq_true hw
          by_cases hy : 0 < y
          · have dy : decide (0 < y) = true := decide_eq_true hy
            have HV2 : Hid (V = decide (x < z)) := by show _ = _; rw [HV.out, dw', dy]; rfl
            clear HV dw'
            go_enter Try.func45, Try.ntmps45
            go_wp2_with fail
            go_quiet (first | (go_at_call 42; exact Calls.quiet_of (HF.out _)) | (go_at_call 65; exact Calls.quiet_of_same (HC.out _)) | (go_at_call 66; exact Calls.quiet_of_same (HU.out _)) | (go_at_call 68; exact Calls.quiet_of_same (HE.out _)))
            go_wp2_with fail
            go_ret
            exact ⟨ret_bool HV2.out.symm, _, rfl⟩
          · have dy : decide (0 < y) = false := decide_eq_false hy
            have HV2 : Hid (V = false) := by show _ = _; rw [HV.out, dy]; simp
            clear HV dw'
            go_enter Try.func45, Try.ntmps45
            go_wp2_with fail
            go_quiet (first | (go_at_call 42; exact Calls.quiet_of (HF.out _)) | (go_at_call 65; exact Calls.quiet_of_same (HC.out _)) | (go_at_call 66; exact Calls.quiet_of_same (HU.out _)) | (go_at_call 68; exact Calls.quiet_of_same (HE.out _)))
            go_wp2_with fail
            go_ret
            exact ⟨ret_bool HV2.out.symm, _, rfl⟩
        · have dw : (wn == 0) = false := by simpa using hw
          have HV2 : Hid (V = false) := by show _ = _; rw [HV.out, decide_eq_false hw]; rfl
          clear HV
          go_enter Try.func45, Try.ntmps45
          go_wp2_with fail
          go_quiet (first | (go_at_call 42; exact Calls.quiet_of (HF.out _)) | (go_at_call 65; exact Calls.quiet_of_same (HC.out _)) | (go_at_call 66; exact Calls.quiet_of_same (HU.out _)) | (go_at_call 68; exact Calls.quiet_of_same (HE.out _)))
          go_wp2_with fail
          go_ret
          exact ⟨ret_bool HV2.out.symm, _, rfl⟩
theorem look_any (h : CT b c P w) (ok : COk k c) (hk : Few k) :
    Calls Try.prog 24 #[ptr b] w fun e w' => e = .returned (.tuple #[]) ∧ CT b c.look P w' ∧ Up b P P w w' := by
  have HW := Lib.hid (isWaiting_any h ok hk)
  have H := Lib.hid h
  have HD : Hid (∀ w1, (∃ m, w1 = w.drewN m) → CT b c P w1 ∧ Up b P P w w1) := fun w1 ⟨m, e⟩ => by rw [e]; exact ⟨h.drewN m, Up.below (below_drewN w m)⟩
  have HL : Hid (c.look = { c with beg := if Cn.waits c && !c.run then c.time else c.beg, run := c.waits }) := rfl
  cases hV : c.waits with
  | false =>
    have HL2 : Hid (c.look = { c with run := false }) := by show _ = _; rw [HL.out, hV]; rfl
    rw [hV] at HW
    clear h ok hk HL hV H
    go_enter Try.func24, Try.ntmps24
    go_wp2_with fail
    refine HW.out.mono ?_; rintro e w1 ⟨rfl, hm⟩
    obtain ⟨h1, u1⟩ := HD.out _ hm
    have c18 := h1.c18
    have f18 := h1.free 18
    have H1 := Lib.hid (h1.s18 false)
    have U1 := Lib.hid (u1.set 18 (.bool false))
    clear h1 u1 hm HD HW
    go_wp2_with fail
    refine bodyPost_end (results_none rfl _ _ _) rfl ?_
    exact ⟨rfl, by rw [HL2.out]; exact H1.out, U1.out⟩
  | true =>
    rw [hV] at HW
    cases hr : c.run with
    | true =>
      have HL2 : Hid (c.look = { c with run := true }) := by show _ = _; rw [HL.out, hV, hr]; rfl
      clear ok hk HL hV
      go_enter Try.func24, Try.ntmps24
      go_wp2_with fail
      refine HW.out.mono ?_; rintro e w1 ⟨rfl, hm⟩
      obtain ⟨h1, u1⟩ := HD.out _ hm
      have c18 := h1.c18
      rw [hr] at c18
      have f18 := h1.free 18
      have H1 := Lib.hid (h1.s18 true)
      have U1 := Lib.hid (u1.set 18 (.bool true))
      clear h1 u1 hm HD HW h H hr
      go_wp2_with fail
      refine bodyPost_end (results_none rfl _ _ _) rfl ?_
      exact ⟨rfl, by rw [HL2.out]; exact H1.out, U1.out⟩
    | false =>
      have HL2 : Hid (c.look = { c with beg := c.time, run := true }) := by show _ = _; rw [HL.out, hV, hr]; rfl
      clear ok hk HL hV
      go_enter Try.func24, Try.ntmps24
      go_wp2_with fail
      refine HW.out.mono ?_; rintro e w1 ⟨rfl, hm⟩
      obtain ⟨h1, u1⟩ := HD.out _ hm
      have c18 := h1.c18
      rw [hr] at c18
      have c17 := h1.c17
      have c19 := h1.c19
      have f18 := h1.free 18
      have f19 := h1.free 19
      have H1 := Lib.hid ((h1.s19 c.time).s18 true)
      have U1 := Lib.hid ((u1.set 19 (.int .i64 c.time)).set 18 (.bool true))
      clear h1 u1 hm HD HW h H hr
      go_wp2_with fail
      refine bodyPost_end (results_none rfl _ _ _) rfl ?_
      exact ⟨rfl, by rw [HL2.out]; exact H1.out, U1.out⟩
end
end Go.Proofs.Ytnhcjefbiihfjaa
