/-
  Contracts of package conn: the states; the other side's SYN.
-/
import Derived.Test.YtnhcjefbiihfjaaCc
namespace Go.Proofs.Ytnhcjefbiihfjaa
open Go.RowKit
open Tc (Sg gchk gv gc)
set_option linter.unusedVariables false
set_option linter.unusedSimpArgs false

/-- A segment's cells, as a list. -/
abbrev gcl (g : Sg) : List Value := [.int .u32 (g.sa : Int), .int .i64 g.sp, .int .u32 (g.da : Int), .int .i64 g.dp, .int .u32 (g.sq : Int), .int .u32 (g.ak : Int), .bool g.syn, .bool g.ack, .bool g.fin, .bool g.rst, .int .i64 g.win, .int .i64 g.mss, .string g.body]
theorem gcl_one (g : Sg) : ∀ v ∈ gcl g, v.oneCell' = true := by
  intro v hv
  simp only [List.mem_cons, List.not_mem_nil, or_false] at hv
  rcases hv with rfl | rfl | rfl | rfl | rfl | rfl | rfl | rfl | rfl | rfl | rfl | rfl | rfl <;> rfl
theorem infoSeg : (Try.prog.info? 35).map (·.size) = some 13 := by kernel_rfl
theorem GB.range {b : Nat} {g : Sg} {W : World} (h : Tc.GB b g W) : W.rangeAt b 0 (gcl g) := fun j u hu => by
  rw [Nat.zero_add, Joins.cell_of_block h j, ← hu]
  exact List.getElem?_toArray
theorem seg_at {b : Nat} {g : Sg} {W : World} (h : Tc.GB b g W) : (Instr.loadAt 35 (.pointer (some ⟨b, 0, none⟩))).run Try.prog W = .ok (gv g) W :=
  run_loadAt_mid W b 0 35 (gcl g) _ (GB.range h) Try.underlying35 rfl infoSeg
section
variable {b k : Nat} {c : Cn} {P : Pt} {w : World}
theorem endOut_any (h : CT b c P w) :
    Calls Try.prog 26 #[ptr b] w fun e w' => e = .returned (.tuple #[]) ∧ CT b c.endOut P w' ∧ Up b P P w w' := by
  have HC := Lib.hid (Oq.q_close h.out)
  have c10 := h.c10
  have HX : Hid (∀ w1, Oq.OT P.po P.ov (Oq.cl c.o) w1 → Kp [P.po] w w1 → w1.cell? ⟨b, 11, none⟩ = some (.bool c.o.sh) ∧ w1.frozen? ⟨b, 11, none⟩ = false ∧ CT b { c with o := Oq.cl c.o } P (w1.setCell ⟨b, 11, none⟩ (.bool true)) ∧ Up b P P w (w1.setCell ⟨b, 11, none⟩ (.bool true))) := fun w1 ho hk => by
    have hb : w1.heap[b]? = w.heap[b]? := hk.block b h.lt (by simpa using h.ne_po)
    refine ⟨?_, ?_, h.shut ho hk, (up1 hk (by simp [fp])).set _ _⟩
    · rw [World.cell?_of_block (w := w) hb]; exact h.c11
    · rw [World.frozen?_of_block (w := w) hb]; exact h.free 11
  have HE : Hid (c.endOut = { c with o := Oq.cl c.o, st := if c.st = 3 then 4 else if c.st = 6 then 8 else c.st }) := rfl
  clear h
  by_cases h3 : c.st = 3
  · have HE2 : Hid (c.endOut = { c with o := Oq.cl c.o, st := 4 }) := by show _ = _; rw [HE.out, if_pos h3]
    go_enter Try.func26, Try.ntmps26
    go_wp2_with fail
    refine HC.out.mono ?_; rintro e w1 ⟨rfl, ho, hk⟩
    obtain ⟨d11, f11, T1, U1⟩ := HX.out _ ho hk
    have c6 := T1.c6
    rw [show ({ c with o := Oq.cl c.o } : Cn).st = 3 from h3] at c6
    have f6 := T1.free 6
    have T2 := Lib.hid (T1.s6 4)
    have U2 := Lib.hid (U1.set 6 (.int .i64 4))
    clear T1 U1 ho hk HX HC HE h3
    go_wp2_with fail
    refine bodyPost_end (results_none rfl _ _ _) rfl ?_
    exact ⟨rfl, by rw [HE2.out]; exact T2.out, U2.out⟩
  · by_cases h6 : c.st = 6
    · have HE2 : Hid (c.endOut = { c with o := Oq.cl c.o, st := 8 }) := by show _ = _; rw [HE.out, if_neg h3, if_pos h6]
      go_enter Try.func26, Try.ntmps26
      go_wp2_with fail
      refine HC.out.mono ?_; rintro e w1 ⟨rfl, ho, hk⟩
      obtain ⟨d11, f11, T1, U1⟩ := HX.out _ ho hk
      have c6 := T1.c6
      rw [show ({ c with o := Oq.cl c.o } : Cn).st = 6 from h6] at c6
      have f6 := T1.free 6
      have T2 := Lib.hid (T1.s6 8)
      have U2 := Lib.hid (U1.set 6 (.int .i64 8))
      clear T1 U1 ho hk HX HC HE h3 h6
      go_wp2_with fail
      refine bodyPost_end (results_none rfl _ _ _) rfl ?_
      exact ⟨rfl, by rw [HE2.out]; exact T2.out, U2.out⟩
    · have HE2 : Hid (c.endOut = { c with o := Oq.cl c.o }) := by show _ = _; rw [HE.out, if_neg h3, if_neg h6]
      have d3 : (c.st == 3) = false := by simpa using h3
      have d6 : (c.st == 6) = false := by simpa using h6
      go_enter Try.func26, Try.ntmps26
      go_wp2_with fail
      refine HC.out.mono ?_; rintro e w1 ⟨rfl, ho, hk⟩
      obtain ⟨d11, f11, T1, U1⟩ := HX.out _ ho hk
      have c6 := T1.c6
      rw [show ({ c with o := Oq.cl c.o } : Cn).st = c.st from rfl] at c6
      have T2 := Lib.hid T1
      have U2 := Lib.hid U1
      clear T1 U1 ho hk HX HC HE h3 h6
      go_wp2_with fail
      refine bodyPost_end (results_none rfl _ _ _) rfl ?_
      exact ⟨rfl, by rw [HE2.out]; exact T2.out, U2.out⟩
theorem breakOff_any (h : CT b c P w) :
    Calls Try.prog 62 #[ptr b] w fun e w' => e = .returned (.tuple #[]) ∧ CT b c.broken P w' ∧ Up b P P w w' := by
  have HC : Hid (∀ x, Calls Try.prog 21 #[ptr b, .int .i64 x] w fun e w' => e = .returned (.tuple #[]) ∧ CT b (c.done x) P w' ∧ Up b P P w w') := fun x => end_any h x
  have c6 := h.c6
  have HB : Hid (c.broken = if c.st = 9 then c.done 0 else c.done 12) := rfl
  clear h
  by_cases h9 : c.st = 9
  · have HB2 : Hid (c.broken = c.done 0) := by show _ = _; rw [HB.out, if_pos h9]
    rw [h9] at c6
    clear HB h9
    go_enter Try.func62, Try.ntmps62
    go_wp2_with fail
    refine (HC.out _).mono ?_; rintro e w1 ⟨rfl, T1, U1⟩
    have T2 := Lib.hid T1
    have U2 := Lib.hid U1
    clear T1 U1 HC
    go_wp2_with fail
    refine bodyPost_end (results_none rfl _ _ _) rfl ?_
    exact ⟨rfl, by rw [HB2.out]; exact T2.out, U2.out⟩
  · have HB2 : Hid (c.broken = c.done 12) := by show _ = _; rw [HB.out, if_neg h9]
    have d9 : (c.st == 9) = false := by simpa using h9
    clear HB h9
    go_enter Try.func62, Try.ntmps62
    go_wp2_with fail
    refine (HC.out _).mono ?_; rintro e w1 ⟨rfl, T1, U1⟩
    have T2 := Lib.hid T1
    have U2 := Lib.hid U1
    clear T1 U1 HC
    go_wp2_with fail
    refine bodyPost_end (results_none rfl _ _ _) rfl ?_
    exact ⟨rfl, by rw [HB2.out]; exact T2.out, U2.out⟩
theorem heard_any (h : CT b c P w) (ok : COk k c) :
    Calls Try.prog 93 #[ptr b] w fun e w' => e = .returned (.tuple #[]) ∧ CT b c.heard P w' ∧ Up b P P w w' := by
  have HC := Lib.hid (wait_any h ok)
  have c6 := h.c6
  have f6 := h.free 6
  have H := Lib.hid h
  have HH : Hid (c.heard = if c.st = 3 then { c with st := 6 } else if c.st = 4 then { c with st := 7 } else if c.st = 5 then c.wait else c) := rfl
  clear h ok
  by_cases h3 : c.st = 3
  · have HE2 : Hid (c.heard = { c with st := 6 }) := by show _ = _; rw [HH.out, if_pos h3]
    rw [h3] at c6
    clear HH h3 HC
    have T2 := Lib.hid (H.out.s6 6)
    have U2 : Hid (Up b P P w (w.setCell ⟨b, 6, none⟩ (.int .i64 6))) := (Up.refl _ _ _).set _ _
    go_enter Try.func93, Try.ntmps93
    go_wp2_with fail
    refine bodyPost_end (results_none rfl _ _ _) rfl ?_
    exact ⟨rfl, by rw [HE2.out]; exact T2.out, U2.out⟩
  · have d3 : (c.st == 3) = false := by simpa using h3
    by_cases h4 : c.st = 4
    · have HE2 : Hid (c.heard = { c with st := 7 }) := by show _ = _; rw [HH.out, if_neg h3, if_pos h4]
      rw [h4] at c6
      clear HH h3 HC d3 h4
      have T2 := Lib.hid (H.out.s6 7)
      have U2 : Hid (Up b P P w (w.setCell ⟨b, 6, none⟩ (.int .i64 7))) := (Up.refl _ _ _).set _ _
      go_enter Try.func93, Try.ntmps93
      go_wp2_with fail
      refine bodyPost_end (results_none rfl _ _ _) rfl ?_
      exact ⟨rfl, by rw [HE2.out]; exact T2.out, U2.out⟩
    · have d4 : (c.st == 4) = false := by simpa using h4
      by_cases h5 : c.st = 5
      · have HE2 : Hid (c.heard = c.wait) := by show _ = _; rw [HH.out, if_neg h3, if_neg h4, if_pos h5]
        rw [h5] at c6
        clear HH h3 d3 h4 d4 h5 H
        go_enter Try.func93, Try.ntmps93
        go_wp2_with fail
        refine HC.out.mono ?_; rintro e w1 ⟨rfl, T1, U1⟩
        have T2 := Lib.hid T1
        have U2 := Lib.hid U1
        clear T1 U1 HC
        go_wp2_with fail
        refine bodyPost_end (results_none rfl _ _ _) rfl ?_
        exact ⟨rfl, by rw [HE2.out]; exact T2.out, U2.out⟩
      · have HE2 : Hid (c.heard = c) := by show _ = _; rw [HH.out, if_neg h3, if_neg h4, if_neg h5]
        have d5 : (c.st == 5) = false := by simpa using h5
        clear HH h3 h4 h5 HC
        go_enter Try.func93, Try.ntmps93
        go_wp2_with fail
        refine bodyPost_end (results_none rfl _ _ _) rfl ?_
        exact ⟨rfl, by rw [HE2.out]; exact H.out, Up.refl _ _ _⟩
theorem mssOf_any (g : Sg) (w : World) :
    Calls Try.prog 74 #[gv g] w fun e w' => e = .returned (.int .i64 (Cn.mssOf g)) ∧ Below w.heap.size w w' := by
  have b0 : Below w.heap.size w (w.alloc (.cells (gc g) 35)) := (Below.refl _ _).alloc (Nat.le_refl _) _
  have HM : Hid (Cn.mssOf g = if g.mss = 0 then 536 else max g.mss 8) := rfl
  by_cases h0 : g.mss = 0
  · have HM2 : Hid (Cn.mssOf g = 536) := by show _ = _; rw [HM.out, if_pos h0]
    have d0 : (g.mss == 0) = true := by simpa using h0
    clear HM
    go_enter Try.func74, Try.ntmps74
    go_wp2_with fail
    go_ret
    exact ⟨ret_int HM2.out.symm, b0⟩
  · have HM2 : Hid (Cn.mssOf g = max g.mss 8) := by show _ = _; rw [HM.out, if_neg h0]
    have d0 : (g.mss == 0) = false := by simpa using h0
    clear HM
    go_enter Try.func74, Try.ntmps74
    go_wp2_with fail
    go_ret
    exact ⟨ret_int HM2.out.symm, b0⟩
theorem waitAnew_any (g : Sg) (h : CT b c P w) (ok : COk k c) :
    Calls Try.prog 79 #[ptr b, gv g] w fun e w' => e = .returned (.tuple #[]) ∧ CT b (c.again9 g) P w' ∧ Up b P P w w' := by
  have H0 := Lib.hid (h.alloc (.cells (gc g) 35))
  have U0 : Hid (Up b P P w (w.alloc (.cells (gc g) 35))) := Up.below ((Below.refl _ _).alloc (Nat.le_refl _) _)
  have G0 := Lib.hid (Tc.GB.new w g)
  have HC := Lib.hid (wait_any H0.out ok)
  have c6 : (w.alloc (.cells (gc g) 35)).cell? ⟨b, 6, none⟩ = some (.int .i64 c.st) := H0.out.c6
  have HA : Hid (c.again9 g = if c.st = 9 ∧ g.fin = true then c.wait else c) := rfl
  clear h ok
  by_cases h9 : c.st = 9
  · rw [h9] at c6
    cases hf : g.fin with
    | true =>
      have HA2 : Hid (c.again9 g = c.wait) := by show _ = _; rw [HA.out, if_pos ⟨h9, hf⟩]
      have g8 := G0.out.c8
      rw [hf] at g8
      clear HA h9 hf
      go_enter Try.func79, Try.ntmps79
      go_wp2_with fail
      refine HC.out.mono ?_; rintro e w1 ⟨rfl, T1, U1⟩
      have T2 := Lib.hid T1
      have U2 := Lib.hid (U0.out.trans U1)
      clear T1 U1 HC U0 H0 G0 c6 g8
      go_wp2_with fail
      refine bodyPost_end (results_none rfl _ _ _) rfl ?_
      exact ⟨rfl, by rw [HA2.out]; exact T2.out, U2.out⟩
    | false =>
      have HA2 : Hid (c.again9 g = c) := by show _ = _; rw [HA.out, if_neg (by rw [hf]; simp)]
      have g8 := G0.out.c8
      rw [hf] at g8
      clear HA h9 hf HC
      go_enter Try.func79, Try.ntmps79
      go_wp2_with fail
      refine bodyPost_end (results_none rfl _ _ _) rfl ?_
      exact ⟨rfl, by rw [HA2.out]; exact H0.out, U0.out⟩
  · have HA2 : Hid (c.again9 g = c) := by show _ = _; rw [HA.out, if_neg (fun h => h9 h.1)]
    have d9 : (c.st == 9) = false := by simpa using h9
    clear HA h9 HC
    go_enter Try.func79, Try.ntmps79
    go_wp2_with fail
    refine bodyPost_end (results_none rfl _ _ _) rfl ?_
    exact ⟨rfl, by rw [HA2.out]; exact H0.out, U0.out⟩
end
end Go.Proofs.Ytnhcjefbiihfjaa
