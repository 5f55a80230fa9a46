/-
  Contract of Read (package tcp).
-/
import Derived.Test.YtggoipdmiajckaaHd
import Derived.Test.YtggoipdmiajckaaCk
namespace Go.Proofs.Ytggoipdmiajckaa
open Go.RowKit
set_option linter.unusedVariables false
set_option linter.unusedSimpArgs false

/-- The Mss that a text's options tell. -/
def rm (s : ByteArray) : Option Nat := mo s (bo s) (bo s) 20 0
/-- The segment that a text says. -/
def rg (src dst : Nat) (s : ByteArray) : Sg := { hd src dst s with mss := (((rm s).getD 0 : Nat) : Int), body := s.extract (bo s) s.size }
/-- What is wrong with a text. -/
def rerr (src dst : Nat) (s : ByteArray) : Int := if flt src dst s = 0 then (if rm s = none then 4 else gchk (rg src dst s)) else flt src dst s
/-- What Read tells. -/
def rres (src dst : Nat) (s : ByteArray) : Sg := if rerr src dst s = 0 then rg src dst s else gz

theorem flt_ok {src dst : Nat} {s : ByteArray} (h : flt src dst s = 0) : 20 ≤ s.size ∧ 20 ≤ bo s ∧ (bt s 12).toNat % 16 = 0 ∧ bo s ≤ s.size ∧ tw s 16 = cs src dst (s.extract 0 16) (s.extract 18 s.size) ∧ (bt s 13).toNat ≤ 31 ∧ tw s 18 = 0 := by
  unfold flt at h
  split at h
  · cases h
  split at h
  · cases h
  split at h
  · cases h
  split at h
  · cases h
  split at h
  · cases h
  split at h
  · cases h
  split at h
  · cases h
  · rename_i h1 h2 h3 h4 h5 h6 h7
    exact ⟨by omega, by omega, by omega, by omega, by omega, by omega, by omega⟩

theorem slT (s : ByteArray) (k m : Nat) (hk : k ≤ m) (h : m ≤ s.size) (q p : Int) (hq : q = k) (hp : p = m) (hs : s.size ≤ 281474976710656) (w' : World) : (Instr.slice 9 (.string s) (some (.int .i64 q)) (some (.int .i64 p)) none).run Try.prog w' = .ok (.string (s.extract k m)) w' := by
  subst hq hp
  have := run_slice_string (P := Try.prog) w' 9 s .i64 .i64 (k : Int) (m : Int) Try.underlying9 (by omega) (by omega) (by omega)
  simpa using this

theorem mssOf_at (s : ByteArray) (w : World) (h20 : 20 ≤ bo s) (hb : bo s ≤ s.size) :
    Calls Try.prog 34 #[.string (s.extract 20 (bo s))] w fun e w' => e = .returned (.tuple #[.int .i64 (((rm s).getD 0 : Nat) : Int), .int .i64 (me (rm s))]) ∧ Below w.heap.size w w' := by
  have z : (s.extract 20 (bo s)).size = bo s - 20 := by simp; omega
  have hl := bo_le s
  have h := mssOf_any (s.extract 20 (bo s)) w (by omega)
  have e : mo (s.extract 20 (bo s)) (s.extract 20 (bo s)).size (s.extract 20 (bo s)).size 0 0 = rm s := by
    rw [z, mo_extract s (bo s) hb h20]
    exact mo_fuel _ _ _ _ _ _ (by omega) (by omega)
  rw [e] at h
  exact h

theorem read_flt (src dst : Nat) (s : ByteArray) (w : World) (h1 : src < 4294967296) (h2 : dst < 4294967296) (hs : s.size ≤ 140737488355328) (hf : flt src dst s ≠ 0) :
    Calls Try.prog 14 #[.int .u32 (src : Int), .int .u32 (dst : Int), .string s] w fun e w' => e = .returned (.tuple #[gv gz, .int .i64 (flt src dst s)]) ∧ Below w.heap.size w w' := by
  have HF : Hid (∀ w', Calls Try.prog 32 #[.int .u32 (src : Int), .int .u32 (dst : Int), .string s] w' fun e w'' => e = .returned (.int .i64 (flt src dst s)) ∧ Below w'.heap.size w' w'') := fun w' => flt_any src dst s w' h1 h2 hs
  have b0 : Below w.heap.size w (w.alloc (.cells gzc 26)) := (Below.refl _ _).alloc (Nat.le_refl _) _
  have P0 : Hid (GB w.heap.size gz (w.alloc (.cells gzc 26))) := GB.new w gz
  generalize flt src dst s = F at *
  have hne : (F != 0) = true := by simpa using hf
  go_enter Try.func14, Try.ntmps14
  go_wp2_with fail
  refine (HF.out _).mono ?_; rintro e w1 ⟨rfl, hb1⟩
  have P1 := Lib.hid (P0.out.keep hb1)
  have b1 := b0.trans (hb1.mono (by simp))
  go_wp2_with (refine wpList_store_mid rfl _ _ _ rfl _ _ (gc gz) rfl rfl P1.out.there info26 (gc_one gz) ?_)
  exact bodyPost_ret (v := .tuple #[gv gz, .int .i64 F]) (by simp [results, Try.results14, Act.put, asAddr, told w1 w.heap.size gz gz P1.out]) rfl ⟨rfl, below_setCells b1 (Nat.le_refl _) _ _⟩

theorem read_opt (src dst : Nat) (s : ByteArray) (w : World) (h1 : src < 4294967296) (h2 : dst < 4294967296) (hs : s.size ≤ 140737488355328) (hf : flt src dst s = 0) (hm : rm s = none) :
    Calls Try.prog 14 #[.int .u32 (src : Int), .int .u32 (dst : Int), .string s] w fun e w' => e = .returned (.tuple #[gv gz, .int .i64 4]) ∧ Below w.heap.size w w' := by
  obtain ⟨f1, f2, f3, f4, _⟩ := flt_ok hf
  have HF : Hid (∀ w', Calls Try.prog 32 #[.int .u32 (src : Int), .int .u32 (dst : Int), .string s] w' fun e w'' => e = .returned (.int .i64 0) ∧ Below w'.heap.size w' w'') := fun w' => by
    have := flt_any src dst s w' h1 h2 hs
    rwa [hf] at this
  have HB : Hid (∀ w', Calls Try.prog 33 #[.string s] w' fun e w'' => e = .returned (.int .i64 (bo s : Int)) ∧ w'' = w') := fun w' => bodyAt_any s w' (by omega)
  have s1 : ∀ w', (Instr.slice 9 (.string s) (some (.int .i64 20)) (some (.int .i64 (bo s : Int))) none).run Try.prog w' = .ok (.string (s.extract 20 (bo s))) w' := fun w' => slT s 20 (bo s) f2 f4 20 (bo s : Int) rfl rfl (by omega) w'
  have HM : Hid (∀ w', Calls Try.prog 34 #[.string (s.extract 20 (bo s))] w' fun e w'' => e = .returned (.tuple #[.int .i64 0, .int .i64 4]) ∧ Below w'.heap.size w' w'') := fun w' => by
    have := mssOf_at s w' f2 f4
    rw [hm] at this
    exact this
  have b0 : Below w.heap.size w (w.alloc (.cells gzc 26)) := (Below.refl _ _).alloc (Nat.le_refl _) _
  have P0 : Hid (GB w.heap.size gz (w.alloc (.cells gzc 26))) := GB.new w gz
  generalize s.extract 20 (bo s) = O at *
  generalize bo s = T at *
  clear hf hm
  go_enter Try.func14, Try.ntmps14
  go_wp2_with fail
  refine (HF.out _).mono ?_; rintro e w1 ⟨rfl, hb1⟩
  have P1 := Lib.hid (P0.out.keep hb1)
  have b1 := b0.trans (hb1.mono (by simp))
  go_wp2_with fail
  refine (HB.out _).mono ?_; rintro e w1 ⟨rfl, rfl⟩
  go_wp2_with fail
  refine (HM.out _).mono ?_; rintro e w2 ⟨rfl, hb2⟩
  have P2 := Lib.hid (P1.out.keep hb2)
  have b2 := b1.trans (hb2.mono b1.size)
  go_wp2_with (refine wpList_store_mid rfl _ _ _ rfl _ _ (gc gz) rfl rfl P2.out.there info26 (gc_one gz) ?_)
  exact bodyPost_ret (v := .tuple #[gv gz, .int .i64 4]) (by simp [results, Try.results14, Act.put, asAddr, told w2 w.heap.size gz gz P2.out]) rfl ⟨rfl, below_setCells b2 (Nat.le_refl _) _ _⟩

set_option maxHeartbeats 4000000 in
theorem read_go (src dst : Nat) (s : ByteArray) (w : World) (h1 : src < 4294967296) (h2 : dst < 4294967296) (hs : s.size ≤ 140737488355328) (hf : flt src dst s = 0) (hm : rm s ≠ none) :
    Calls Try.prog 14 #[.int .u32 (src : Int), .int .u32 (dst : Int), .string s] w fun e w' => e = .returned (.tuple #[gv (if gchk (rg src dst s) = 0 then rg src dst s else gz), .int .i64 (gchk (rg src dst s))]) ∧ Below w.heap.size w w' := by
  obtain ⟨f1, f2, f3, f4, _⟩ := flt_ok hf
  have HF : Hid (∀ w', Calls Try.prog 32 #[.int .u32 (src : Int), .int .u32 (dst : Int), .string s] w' fun e w'' => e = .returned (.int .i64 0) ∧ Below w'.heap.size w' w'') := fun w' => by
    have := flt_any src dst s w' h1 h2 hs
    rwa [hf] at this
  have HB : Hid (∀ w', Calls Try.prog 33 #[.string s] w' fun e w'' => e = .returned (.int .i64 (bo s : Int)) ∧ w'' = w') := fun w' => bodyAt_any s w' (by omega)
  have s1 : ∀ w', (Instr.slice 9 (.string s) (some (.int .i64 20)) (some (.int .i64 (bo s : Int))) none).run Try.prog w' = .ok (.string (s.extract 20 (bo s))) w' := fun w' => slT s 20 (bo s) f2 f4 20 (bo s : Int) rfl rfl (by omega) w'
  have s2 : ∀ w', (Instr.slice 9 (.string s) (some (.int .i64 (bo s : Int))) none none).run Try.prog w' = .ok (.string (s.extract (bo s) s.size)) w' := fun w' => by
    have := run_slice_string_l (P := Try.prog) w' 9 s Try.underlying9 .i64 (bo s : Int) (by omega) (by omega)
    simpa using this
  have HM : Hid (∀ w', Calls Try.prog 34 #[.string (s.extract 20 (bo s))] w' fun e w'' => e = .returned (.tuple #[.int .i64 (((rm s).getD 0 : Nat) : Int), .int .i64 0]) ∧ Below w'.heap.size w' w'') := fun w' => by
    have := mssOf_at s w' f2 f4
    rw [show me (rm s) = 0 from by unfold me; rw [if_neg hm]] at this
    exact this
  have HH : Hid (∀ w', Calls Try.prog 35 #[.int .u32 (src : Int), .int .u32 (dst : Int), .string s] w' fun e w'' => e = .returned (gv (hd src dst s)) ∧ Below w'.heap.size w' w'') := fun w' => headOf_any src dst s w' f1 (by omega)
  have HL : Hid (∀ w', Calls Try.prog 36 #[.string (s.extract (bo s) s.size)] w' fun e w'' => e = .returned (.string (s.extract (bo s) s.size)) ∧ Below w'.heap.size w' w'') := fun w' => clone_any _ w' (by simp; omega)
  have HC : Hid (∀ w', Calls Try.prog 10 #[gv (rg src dst s)] w' fun e w'' => e = .returned (.int .i64 (gchk (rg src dst s))) ∧ Below w'.heap.size w' w'') := fun w' => gchk_any _ w'
  have HI : Hid (∀ b W, GB b { hd src dst s with mss := (((rm s).getD 0 : Nat) : Int) } W → GB b (rg src dst s) (W.setCell ⟨b, 12, none⟩ (.string (s.extract (bo s) s.size)))) := fun b W h => h.setB _
  have b0 : Below w.heap.size w (w.alloc (.cells gzc 26)) := (Below.refl _ _).alloc (Nat.le_refl _) _
  have P0 : Hid (GB w.heap.size gz (w.alloc (.cells gzc 26))) := GB.new w gz
  generalize hd src dst s = H0 at *
  generalize gchk (rg src dst s) = C at *
  generalize rg src dst s = G at *
  generalize s.extract 20 (bo s) = O at *
  generalize s.extract (bo s) s.size = Y at *
  generalize bo s = T at *
  generalize (rm s).getD 0 = M at *
  clear hf hm
  go_enter Try.func14, Try.ntmps14
  go_wp2_with fail
  refine (HF.out _).mono ?_; rintro e w1 ⟨rfl, hb1⟩
  have P1 := Lib.hid (P0.out.keep hb1)
  have b1 := b0.trans (hb1.mono (by simp))
  go_wp2_with fail
  refine (HB.out _).mono ?_; rintro e w1 ⟨rfl, rfl⟩
  go_wp2_with fail
  refine (HM.out _).mono ?_; rintro e w2 ⟨rfl, hb2⟩
  have P2 := Lib.hid (P1.out.keep hb2)
  have b2 := b1.trans (hb2.mono b1.size)
  go_wp2_with fail
  refine (HH.out _).mono ?_; rintro e w3 ⟨rfl, hb3⟩
  have P3 := Lib.hid (P2.out.keep hb3)
  have b3 := b2.trans (hb3.mono b2.size)
  have hlt : w.heap.size < w3.heap.size := P3.out.lt
  have P4 := Lib.hid (P3.out.alloc (.cells (gc { H0 with mss := (M : Int) }) 26))
  have N4 := Lib.hid (GB.new w3 { H0 with mss := (M : Int) })
  have b4 := b3.alloc b3.size (.cells (gc { H0 with mss := (M : Int) }) 26)
  clear P0 P1 P2 P3 b0 b1 b2 b3 hb1 hb2 hb3 HF HB HM HH
  go_wp2_with fail
  refine (HL.out _).mono ?_; rintro e w4 ⟨rfl, hb4⟩
  have N5 := Lib.hid (N4.out.keep hb4)
  have P5 := Lib.hid (P4.out.keep hb4)
  have b5 := b4.trans (hb4.mono b4.size)
  have x12 := N5.out.c12
  have z12 := Joins.unfrozen_of_block N5.out 12
  have N6 := Lib.hid (HI.out _ _ N5.out)
  have P6 := Lib.hid (P5.out.set1o (Nat.ne_of_lt hlt) 12 (.string Y))
  have b6 := b5.setCell (p := ⟨w3.heap.size, 12, none⟩) (Nat.le_of_lt hlt) (.string Y)
  have HU := Lib.hid Try.underlying26
  clear N4 P4 b4 N5 P5 b5 hb4 HL HI
  go_wp2_with (refine wpList_load_mid rfl _ _ rfl _ _ rfl (gcl G) _ N6.out.range HU.out rfl info26 ?_)
  refine (HC.out _).mono ?_; rintro e w5 ⟨rfl, hb5⟩
  have Q5 := Lib.hid (N6.out.keep hb5)
  have P7 := Lib.hid (P6.out.keep hb5)
  have b7 := b6.trans (hb5.mono b6.size)
  clear N6 P6 b6 hb5 x12 z12
  by_cases hk : C = 0
  · subst hk
    go_wp2_with (first | refine wpList_load_mid rfl _ _ rfl _ _ rfl (gcl G) _ Q5.out.range HU.out rfl info26 ?_ | refine wpList_store_mid rfl _ _ _ rfl _ _ (gc G) rfl rfl P7.out.there info26 (gc_one _) ?_)
    exact bodyPost_ret (v := .tuple #[gv G, .int .i64 0]) (by simp [results, Try.results14, Act.put, asAddr, told w5 w.heap.size gz G P7.out]) rfl ⟨by first | rfl | rw [if_pos rfl], below_setCells b7 (Nat.le_refl _) _ _⟩
  · have hne : (C != 0) = true := by simpa using hk
    go_wp2_with (refine wpList_store_mid rfl _ _ _ rfl _ _ (gc gz) rfl rfl P7.out.there info26 (gc_one gz) ?_)
    exact bodyPost_ret (v := .tuple #[gv gz, .int .i64 C]) (by simp [results, Try.results14, Act.put, asAddr, told w5 w.heap.size gz gz P7.out]) rfl ⟨by first | rfl | rw [if_neg hk], below_setCells b7 (Nat.le_refl _) _ _⟩

theorem read_any (src dst : Nat) (s : ByteArray) (w : World) (h1 : src < 4294967296) (h2 : dst < 4294967296) (hs : s.size ≤ 140737488355328) :
    Calls Try.prog 14 #[.int .u32 (src : Int), .int .u32 (dst : Int), .string s] w fun e w' => e = .returned (.tuple #[gv (rres src dst s), .int .i64 (rerr src dst s)]) ∧ Below w.heap.size w w' := by
  by_cases hf : flt src dst s = 0
  · by_cases hm : rm s = none
    · have e : rerr src dst s = 4 := by unfold rerr; rw [if_pos hf, if_pos hm]
      have e2 : rres src dst s = gz := by unfold rres; rw [e]; rfl
      rw [e, e2]
      exact read_opt src dst s w h1 h2 hs hf hm
    · have e : rerr src dst s = gchk (rg src dst s) := by unfold rerr; rw [if_pos hf, if_neg hm]
      have e2 : rres src dst s = if gchk (rg src dst s) = 0 then rg src dst s else gz := by unfold rres; rw [e]
      rw [e, e2]
      exact read_go src dst s w h1 h2 hs hf hm
  · have e : rerr src dst s = flt src dst s := by unfold rerr; rw [if_neg hf]
    have e2 : rres src dst s = gz := by unfold rres; rw [e, if_neg hf]
    rw [e, e2]
    exact read_flt src dst s w h1 h2 hs hf
end Go.Proofs.Ytggoipdmiajckaa
