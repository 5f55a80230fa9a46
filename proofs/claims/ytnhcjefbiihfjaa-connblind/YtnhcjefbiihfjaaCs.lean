/-
  Contracts of Close, Abort, Write (package conn).
-/
import Derived.Test.YtnhcjefbiihfjaaCr
import Derived.Deep.CutBlock
namespace Go.Proofs.Ytnhcjefbiihfjaa
open Go.RowKit
open Tc (Sg gchk gv gc)
set_option linter.unusedVariables false
set_option linter.unusedSimpArgs false
section
variable {b k bx : Nat} {c : Cn} {P : Pt} {g : Sg} {w : World}
set_option maxHeartbeats 1000000 in
theorem close_any (h : CT b c P w) (ok : COk k c) (hk : Few k) :
    Calls Try.prog 11 #[ptr b] w fun e w' => e = .returned (.int .i64 c.closeE) ∧ CT b c.closeC P w' ∧ Up b P P w w' := by
  have H := Lib.hid h
  have c6 := h.c6
  have c11 := h.c11
  have HD := Lib.hid (end_any h 0)
  have HO := Lib.hid (endOut_any h)
  have HEd : Hid (c.closeE = if c.st = 0 then 10 else if c.o.sh then 17 else 0) := rfl
  have HCd : Hid (c.closeC = if c.closeE ≠ 0 then c else Cn.look (if c.st = 1 then c.done 0 else c.endOut)) := rfl
  have HLa : Hid (∀ Q W, CT b (c.done 0) Q W → Calls Try.prog 24 #[ptr b] W fun e w' => e = .returned (.tuple #[]) ∧ CT b (c.done 0).look Q w' ∧ Up b Q Q W w') := fun Q W h' => look_any h' (ok.done 0) hk
  have HLb : Hid (∀ Q W, CT b c.endOut Q W → Calls Try.prog 24 #[ptr b] W fun e w' => e = .returned (.tuple #[]) ∧ CT b c.endOut.look Q w' ∧ Up b Q Q W w') := fun Q W h' => look_any h' ok.endOut hk
  clear h ok hk
  by_cases h0 : c.st = 0
  · have HE : Hid (c.closeE = 10) := by show _ = _; rw [HEd.out, if_pos h0]
    have HC : Hid (c.closeC = c) := by show _ = _; rw [HCd.out, HE.out]; rfl
    rw [h0] at c6
    clear h0 HEd HCd HD HO HLa HLb
    go_enter Try.func11, Try.ntmps11
    go_wp2_with fail
    go_ret
    exact ⟨ret_int HE.out.symm, by rw [HC.out]; exact H.out, Up.refl _ _ _⟩
  · have d0 : (c.st == 0) = false := by simpa using h0
    cases hs : c.o.sh with
    | true =>
      have HE : Hid (c.closeE = 17) := by show _ = _; rw [HEd.out, if_neg h0, hs]; rfl
      have HC : Hid (c.closeC = c) := by show _ = _; rw [HCd.out, HE.out]; rfl
      rw [hs] at c11
      clear h0 hs HEd HCd HD HO HLa HLb
      go_enter Try.func11, Try.ntmps11
      go_wp2_with fail
      go_ret
      exact ⟨ret_int HE.out.symm, by rw [HC.out]; exact H.out, Up.refl _ _ _⟩
    | false =>
      have HE : Hid (c.closeE = 0) := by show _ = _; rw [HEd.out, if_neg h0, hs]; rfl
      rw [hs] at c11
      by_cases h1 : c.st = 1
      · have HC : Hid (c.closeC = (c.done 0).look) := by show _ = _; rw [HCd.out, HE.out, if_neg (by simp), if_pos h1]
        have HL := HLa
        rw [h1] at c6
        clear h0 hs HEd HCd HO HLa HLb d0 h1
        go_enter Try.func11, Try.ntmps11
        go_wp2_with fail
        refine HD.out.mono ?_; rintro e w1 ⟨rfl, T1, U1⟩
        have HT1 := Lib.hid T1
        have HU1 := Lib.hid U1
        clear T1 U1 HD H c6 c11
        go_wp2_with fail
        refine (HL.out _ _ HT1.out).mono ?_; rintro e w9 ⟨rfl, T9, U9⟩
        have HT9 := Lib.hid T9
        have HU9 := Lib.hid (HU1.out.trans U9)
        clear T9 U9 HL
        go_wp2_with fail
        go_ret
        exact ⟨ret_int HE.out.symm, by rw [HC.out]; exact HT9.out, HU9.out⟩
      · have HC : Hid (c.closeC = c.endOut.look) := by show _ = _; rw [HCd.out, HE.out, if_neg (by simp), if_neg h1]
        have HL := HLb
        have d1 : (c.st == 1) = false := by simpa using h1
        clear h0 hs HEd HCd HD HLa HLb h1
        go_enter Try.func11, Try.ntmps11
        go_wp2_with fail
        refine HO.out.mono ?_; rintro e w1 ⟨rfl, T1, U1⟩
        have HT1 := Lib.hid T1
        have HU1 := Lib.hid U1
        clear T1 U1 HO H c6 c11
        go_wp2_with fail
        refine (HL.out _ _ HT1.out).mono ?_; rintro e w9 ⟨rfl, T9, U9⟩
        have HT9 := Lib.hid T9
        have HU9 := Lib.hid (HU1.out.trans U9)
        clear T9 U9 HL
        go_wp2_with fail
        go_ret
        exact ⟨ret_int HE.out.symm, by rw [HC.out]; exact HT9.out, HU9.out⟩
set_option maxHeartbeats 1000000 in
theorem abort_any (h : CT b c P w) (ok : COk k c) (hk : Few (k + 1)) :
    Calls Try.prog 15 #[ptr b] w fun e w' => e = .returned (.int .i64 c.abortE) ∧ ∃ P', CT b c.abortC P' w' ∧ Up b P P' w w' := by
  have hk0 : Few k := few hk (Nat.le_succ k)
  have H := Lib.hid h
  have c6 := h.c6
  have c10 := h.c10
  obtain ⟨b1, b2, b3, b4, b5⟩ := ok.ob hk0
  have HS : Hid (Calls Try.prog 34 #[ptr P.po] w fun e w' => e = .returned (.int .i64 c.o.s) ∧ w' = w) := Oq.q_sent h.out
  have HN : Hid (Calls Try.prog 33 #[ptr b, .int .i64 c.o.s] w fun e w' => e = .returned (.int .u32 ((Cn.nm c.iss c.o.s : Nat) : Int)) ∧ w' = w) := number_any h _
  have HK := Lib.hid (askRst_any h ok hk0 (Cn.nm c.iss c.o.s))
  have HDa : Hid (∀ Q W, CT b (c.ask (Cn.nm c.iss c.o.s)) Q W → Calls Try.prog 21 #[ptr b, .int .i64 17] W fun e w' => e = .returned (.tuple #[]) ∧ CT b ((c.ask (Cn.nm c.iss c.o.s)).done 17) Q w' ∧ Up b Q Q W w') := fun Q W h' => end_any h' 17
  have HDb := Lib.hid (end_any h 17)
  have HEd : Hid (c.abortE = if c.st = 0 then 10 else 0) := rfl
  have HCd : Hid (c.abortC = if c.st = 0 then c else Cn.look ((if c.st = 1 ∨ c.st = 9 then c else c.ask (Cn.nm c.iss c.o.s)).done 17)) := rfl
  have HLa : Hid (∀ Q W, CT b ((c.ask (Cn.nm c.iss c.o.s)).done 17) Q W → Calls Try.prog 24 #[ptr b] W fun e w' => e = .returned (.tuple #[]) ∧ CT b ((c.ask (Cn.nm c.iss c.o.s)).done 17).look Q w' ∧ Up b Q Q W w') := fun Q W h' => look_any h' ((ok.ask (nm_lt _ _)).done 17) hk
  have HLb : Hid (∀ Q W, CT b (c.done 17) Q W → Calls Try.prog 24 #[ptr b] W fun e w' => e = .returned (.tuple #[]) ∧ CT b (c.done 17).look Q w' ∧ Up b Q Q W w') := fun Q W h' => look_any h' (ok.done 17) hk0
  clear h ok hk hk0 b1 b2 b3 b4 b5
  by_cases h0 : c.st = 0
  · have HE : Hid (c.abortE = 10) := by show _ = _; rw [HEd.out, if_pos h0]
    have HC : Hid (c.abortC = c) := by show _ = _; rw [HCd.out, if_pos h0]
    rw [h0] at c6
    clear h0 HEd HCd HDa HDb HLa HLb HS HN HK
    go_enter Try.func15, Try.ntmps15
    go_wp2_with fail
    go_ret
    exact ⟨ret_int HE.out.symm, P, by rw [HC.out]; exact H.out, Up.refl _ _ _⟩
  · have d0 : (c.st == 0) = false := by simpa using h0
    have HE : Hid (c.abortE = 0) := by show _ = _; rw [HEd.out, if_neg h0]
    by_cases h1 : c.st = 1 ∨ c.st = 9
    · have HC : Hid (c.abortC = (c.done 17).look) := by show _ = _; rw [HCd.out, if_neg h0, if_pos h1]
      have HL := HLb
      clear HEd HCd HDa HLa HLb HS HN HK h0 d0
      rcases h1 with h1 | h1
      all_goals
        rw [h1] at c6
        clear h1
        go_enter Try.func15, Try.ntmps15
        go_wp2_with fail
        refine HDb.out.mono ?_; rintro e w1 ⟨rfl, T1, U1⟩
        have HT1 := Lib.hid T1
        have HU1 := Lib.hid U1
        clear T1 U1 HDb H c6 c10
        go_wp2_with fail
        refine (HL.out _ _ HT1.out).mono ?_; rintro e w9 ⟨rfl, T9, U9⟩
        have HT9 := Lib.hid T9
        have HU9 := Lib.hid (HU1.out.trans U9)
        clear T9 U9 HL
        go_wp2_with fail
        go_ret
        exact ⟨ret_int HE.out.symm, P, by rw [HC.out]; exact HT9.out, HU9.out⟩
    · have HC : Hid (c.abortC = ((c.ask (Cn.nm c.iss c.o.s)).done 17).look) := by show _ = _; rw [HCd.out, if_neg h0, if_neg h1]
      have HL := HLa
      have d1 : (c.st == 1) = false := by rw [beq_eq_false_iff_ne]; omega
      have d9 : (c.st == 9) = false := by rw [beq_eq_false_iff_ne]; omega
      clear HEd HCd HDb HLa HLb h0 h1
      generalize Cn.nm c.iss c.o.s = N at *
      go_enter Try.func15, Try.ntmps15
      go_wp2_with fail
      refine HS.out.mono ?_; rintro e w1 ⟨rfl, rfl⟩
      go_wp2_with fail
      refine HN.out.mono ?_; rintro e w1 ⟨rfl, rfl⟩
      go_wp2_with fail
      refine HK.out.mono ?_; rintro e w1 ⟨rfl, P1, T1, U1⟩
      have HT1 := Lib.hid T1
      have HU1 := Lib.hid U1
      clear T1 U1 HK HS HN H c6 c10
      go_wp2_with fail
      refine (HDa.out _ _ HT1.out).mono ?_; rintro e w2 ⟨rfl, T2, U2⟩
      have HT2 := Lib.hid T2
      have HU2 := Lib.hid (HU1.out.trans U2)
      clear T2 U2 HDa HT1 HU1
      go_wp2_with fail
      refine (HL.out _ _ HT2.out).mono ?_; rintro e w9 ⟨rfl, T9, U9⟩
      have HT9 := Lib.hid T9
      have HU9 := Lib.hid (HU2.out.trans U9)
      clear T9 U9 HL
      go_wp2_with fail
      go_ret
      exact ⟨ret_int HE.out.symm, P1, by rw [HC.out]; exact HT9.out, HU9.out⟩
theorem no_text {T : ByteArray} (h : T.size = 0) : T.toList.isEmpty = true := by
  rw [ByteArray.toList_eq, List.isEmpty_iff]
  apply List.eq_nil_of_length_eq_zero
  rw [Array.length_toList]
  exact h
theorem ne_text {T : ByteArray} (h : T.size ≠ 0) : T.toList.isEmpty = false := by
  rw [ByteArray.toList_eq, List.isEmpty_eq_false_iff]
  intro e
  have := congrArg List.length e
  rw [Array.length_toList] at this
  exact h this
theorem wr_none {o : Oq.St} {x : ByteArray} (h : Oq.wN o x = 0) : Oq.wr o x = o := by
  unfold Oq.wr
  rw [h, Oq.ext_none]
  have : o.A ++ (⟨#[]⟩ : ByteArray) = o.A := by apply Oq.ext_list; rw [ByteArray.data_append, Array.toList_append]; simp
  rw [this]
set_option maxRecDepth 100000 in
set_option maxHeartbeats 1000000 in
theorem write_any (h : CT b c P w) (ok : COk k c) (hk : Few (k + 1)) (x : ByteArray) (hx : x.size ≤ maxLen) :
    Calls Try.prog 10 #[ptr b, .string x] w fun e w' => e = .returned (.tuple #[.int .i64 (c.writeN x), .int .i64 (c.writeE x)]) ∧ ∃ P', CT b (c.writeC x) P' w' ∧ Up b P P' w w' := by
  have hk0 : Few k := few hk (Nat.le_succ k)
  have H := Lib.hid h
  have c6 := h.c6
  have c7 := h.c7
  have c10 := h.c10
  have c11 := h.c11
  have HW : Hid (Calls Try.prog 25 #[ptr P.po, .string x] w fun e w' => e = .returned (.int .i64 (Oq.wN c.o x : Int)) ∧ ∃ v', CT b { c with o := Oq.wr c.o x } { P with ov := v' } w' ∧ Up b P { P with ov := v' } w w') :=
    (Oq.q_write x h.out ok.o (by have := ok.oA' hk0; omega) hx).mono fun e w' ⟨h1, ⟨v', h2, h3⟩, h4⟩ => ⟨h1, v', h.putO h2 h4 rfl, h.upO h4 h3⟩
  have HEd : Hid (c.writeE x = if c.st = 0 then (if c.why = 0 then 17 else c.why) else if c.o.sh then 17 else if Oq.wN c.o x = 0 ∧ x.size ≠ 0 then 14 else 0) := rfl
  have HNd : Hid (c.writeN x = if c.st = 0 ∨ c.o.sh = true then 0 else (Oq.wN c.o x : Int)) := rfl
  have HCd : Hid (c.writeC x = if c.writeE x ≠ 0 then c else Cn.look { c with o := Oq.wr c.o x }) := rfl
  have ok1 : COk (k + 1) { c with o := Oq.wr c.o x } := { ok.mono (Nat.le_succ k) with
    o := ok.o.wr x
    oA := by
      show (Oq.wr c.o x).A.size ≤ _
      have := Oq.wr_size c.o x
      have := (Oq.wN_le c.o x).2.1
      have := ok.oA
      omega }
  have HL : Hid (∀ Q W, CT b { c with o := Oq.wr c.o x } Q W → Calls Try.prog 24 #[ptr b] W fun e w' => e = .returned (.tuple #[]) ∧ CT b (Cn.look { c with o := Oq.wr c.o x }) Q w' ∧ Up b Q Q W w') := fun Q W h' => look_any h' ok1 hk
  have HNo : Hid (Oq.wN c.o x = 0 → ({ c with o := Oq.wr c.o x } : Cn) = c) := fun e => by rw [wr_none e]
  clear h ok hk hk0 ok1 hx
  by_cases h0 : c.st = 0
  · have HN : Hid (c.writeN x = 0) := by show _ = _; rw [HNd.out, if_pos (Or.inl h0)]
    by_cases hy : c.why = 0
    · have HE : Hid (c.writeE x = 17) := by show _ = _; rw [HEd.out, if_pos h0, if_pos hy]
      have HC : Hid (c.writeC x = c) := by show _ = _; rw [HCd.out, HE.out]; rfl
      rw [h0] at c6
      rw [hy] at c7
      clear h0 hy HEd HNd HCd HW HL HNo
      go_enter Try.func10, Try.ntmps10
      go_wp2_with fail
      go_ret2
      rw [HN.out, HE.out, HC.out]
      exact ⟨rfl, P, H.out, Up.refl _ _ _⟩
    · have HE : Hid (c.writeE x = c.why) := by show _ = _; rw [HEd.out, if_pos h0, if_neg hy]
      have HC : Hid (c.writeC x = c) := by show _ = _; rw [HCd.out, HE.out, if_pos hy]
      have dy : (c.why != 0) = true := by rw [bne_iff_ne]; exact hy
      rw [h0] at c6
      clear h0 hy HEd HNd HCd HW HL HNo
      go_enter Try.func10, Try.ntmps10
      go_wp2_with fail
      go_quiet (fail)
      go_wp2_with fail
      go_ret2
      rw [HN.out, HE.out, HC.out]
      exact ⟨rfl, P, H.out.drewN _, Up.below (below_drewN w _)⟩
  · have d0 : (c.st == 0) = false := by simpa using h0
    cases hs : c.o.sh with
    | true =>
      have HN : Hid (c.writeN x = 0) := by show _ = _; rw [HNd.out, if_pos (Or.inr hs)]
      have HE : Hid (c.writeE x = 17) := by show _ = _; rw [HEd.out, if_neg h0, hs]; rfl
      have HC : Hid (c.writeC x = c) := by show _ = _; rw [HCd.out, HE.out]; rfl
      rw [hs] at c11
      clear h0 hs HEd HNd HCd HW HL HNo
      go_enter Try.func10, Try.ntmps10
      go_wp2_with fail
      go_ret2
      rw [HN.out, HE.out, HC.out]
      exact ⟨rfl, P, H.out, Up.refl _ _ _⟩
    | false =>
      have HN : Hid (c.writeN x = (Oq.wN c.o x : Int)) := by show _ = _; rw [HNd.out, if_neg (fun h => h.elim h0 (fun h => by rw [hs] at h; cases h))]
      rw [hs] at c11
      by_cases hz : Oq.wN c.o x = 0
      · have dz : ((Oq.wN c.o x : Int) == 0) = true := by rw [beq_iff_eq]; omega
        by_cases hx0 : x.size = 0
        · have HE : Hid (c.writeE x = 0) := by show _ = _; rw [HEd.out, if_neg h0, hs, if_neg (by simp), if_neg (fun h => h.2 hx0)]
          have HC : Hid (c.writeC x = Cn.look { c with o := Oq.wr c.o x }) := by show _ = _; rw [HCd.out, HE.out]; rfl
          have de := no_text hx0
          clear h0 hs HEd HNd HCd HNo hx0
          rw [hz] at HN
          rw [hz] at HW dz
          clear hz
          go_enter Try.func10, Try.ntmps10
          go_wp2_with fail
          refine HW.out.mono ?_; rintro e w1 ⟨rfl, v1, T1, U1⟩
          have HT1 := Lib.hid T1
          have HU1 := Lib.hid U1
          clear T1 U1 HW H c6 c7 c10 c11
          go_wp2_with fail
          refine (HL.out _ _ HT1.out).mono ?_; rintro e w9 ⟨rfl, T9, U9⟩
          have HT9 := Lib.hid T9
          have HU9 := Lib.hid (HU1.out.trans U9)
          clear T9 U9 HL
          go_wp2_with fail
          go_ret2
          rw [HN.out, HE.out, HC.out]
          exact ⟨rfl, _, HT9.out, HU9.out⟩
        · have HE : Hid (c.writeE x = 14) := by show _ = _; rw [HEd.out, if_neg h0, hs, if_neg (by simp), if_pos ⟨hz, hx0⟩]
          have HC : Hid (c.writeC x = c) := by show _ = _; rw [HCd.out, HE.out]; rfl
          have de := ne_text hx0
          have HNo2 := Lib.hid (HNo.out hz)
          clear h0 hs HEd HNd HCd HNo hx0 HL
          rw [hz] at HN
          rw [hz] at HW dz
          clear hz
          go_enter Try.func10, Try.ntmps10
          go_wp2_with fail
          refine HW.out.mono ?_; rintro e w1 ⟨rfl, v1, T1, U1⟩
          have HT1 := Lib.hid T1
          have HU1 := Lib.hid U1
          rw [HNo2.out] at HT1
          clear T1 U1 HW H c6 c7 c10 c11
          go_wp2_with fail
          go_ret2
          rw [HN.out, HE.out, HC.out]
          exact ⟨rfl, _, HT1.out, HU1.out⟩
      · have dz : ((Oq.wN c.o x : Int) == 0) = false := by rw [beq_eq_false_iff_ne]; omega
        have HE : Hid (c.writeE x = 0) := by show _ = _; rw [HEd.out, if_neg h0, hs, if_neg (by simp), if_neg (fun h => hz h.1)]
        have HC : Hid (c.writeC x = Cn.look { c with o := Oq.wr c.o x }) := by show _ = _; rw [HCd.out, HE.out]; rfl
        clear h0 hs HEd HNd HCd HNo hz
        generalize (Oq.wN c.o x : Int) = N at *
        go_enter Try.func10, Try.ntmps10
        go_wp2_with fail
        refine HW.out.mono ?_; rintro e w1 ⟨rfl, v1, T1, U1⟩
        have HT1 := Lib.hid T1
        have HU1 := Lib.hid U1
        clear T1 U1 HW H c6 c7 c10 c11
        go_wp2_with fail
        refine (HL.out _ _ HT1.out).mono ?_; rintro e w9 ⟨rfl, T9, U9⟩
        have HT9 := Lib.hid T9
        have HU9 := Lib.hid (HU1.out.trans U9)
        clear T9 U9 HL
        go_wp2_with fail
        go_ret2
        rw [HN.out, HE.out, HC.out]
        exact ⟨rfl, _, HT9.out, HU9.out⟩
end
end Go.Proofs.Ytnhcjefbiihfjaa
