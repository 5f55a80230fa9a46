/-
  Contract of Read (package ip).
-/
import Derived.Test.YtlkodoiiigndoaaPkt
import Derived.Test.YtlkodoiiigndoaaCln
namespace Go.Proofs.Ytlkodoiiigndoaa
open Go.RowKit
set_option linter.unusedVariables false
set_option linter.unusedSimpArgs false

/-- The head of a text of twenty bytes or more. -/
def hb (s : ByteArray) : List UInt8 := s.data.toList.take 20
def Bs (s : ByteArray) : Nat → UInt8 := at20 (hb s)
/-- The packet that a text says. -/
def rp (s : ByteArray) : Pk := { pk0 (Bs s) with body := s.extract 20 s.size }
/-- What is wrong with a text. -/
def rerr (s : ByteArray) : Int := if s.size < 20 then 3 else if flt (Bs s) s.size ≠ 0 then flt (Bs s) s.size else chk (rp s)

theorem hb_len (s : ByteArray) (h : 20 ≤ s.size) : (hb s).length = 20 := by
  unfold hb; rw [List.length_take, ← Lib.size_eq]; omega
theorem hvB (s : ByteArray) (h : 20 ≤ s.size) : hv (Bs s) = .agg (cb (hb s)).toArray := by
  rw [hv, ← cb_hl, Bs, hl_at _ (hb_len s h)]
theorem faultS (s : ByteArray) (h : 20 ≤ s.size) (hs : s.size ≤ 281474976710656) (w : World) :
    Calls Try.prog 24 #[.agg (cb (hb s)).toArray, .int .i64 (s.size : Int)] w fun e w' => e = .returned (.int .i64 (flt (Bs s) s.size)) ∧ Below w.heap.size w w' := by
  have := fault_any (Bs s) s.size w (by omega)
  rwa [hvB s h] at this
theorem packetS (s : ByteArray) (h : 20 ≤ s.size) (w : World) :
    Calls Try.prog 25 #[.agg (cb (hb s)).toArray] w fun e w' => e = .returned (pv (pk0 (Bs s))) ∧ Below w.heap.size w w' := by
  have := packet_any (Bs s) w
  rwa [hvB s h] at this

theorem HB20 {g : Nat} {l : List UInt8} {W : World} (h : W.heap[g]? = some (.cells (cb l).toArray 40 (0, 0))) (hl : l.length = 20) : W.rangeAt g 0 (cb l) := by
  have hR := World.rangeAt_of_block h 0 20
  have e2 : ((cb l).toArray.extract 0 (0 + 20)).toList = cb l := by
    simp only [Array.toList_extract, List.extract_eq_take_drop, List.drop_zero]
    rw [List.take_of_length_le (by simp [cb_length, hl])]
  rwa [e2] at hR

/-- What is told beside an error, or a packet, out of a cell of the call's own. -/
theorem told (W : World) (g : Nat) (p q : Pk) (h : PB g p W) : (loadVar 24 ⟨g, 0, none⟩).run Try.prog (W.setCells g 0 (pcl q)) = .ok (pv q) (W.setCells g 0 (pcl q)) :=
  run_loadVar_mid _ _ _ 24 (pcl q) _ (World.rangeAt_setCells_same _ _ _ _ h.there) Try.underlying24 rfl info24

theorem read_short (s : ByteArray) (w : World) (h : s.size < 20) :
    Calls Try.prog 12 #[.string s] w fun e w' => e = .returned (.tuple #[pv pz, .int .i64 3]) ∧ Below w.heap.size w w' := by
  have hlt : (s.size : Int) < 20 := by omega
  have b0 : Below w.heap.size w (w.alloc (.cells (pc pz) 24)) := (Below.refl _ _).alloc (Nat.le_refl _) _
  go_enter Try.func12, Try.ntmps12
  go_wp2
  exact bodyPost_ret (v := .tuple #[pv pz, .int .i64 3]) (by simp [results, Try.results12, go_sem, pz]) rfl ⟨rfl, b0⟩

abbrev pzc : Array Value := #[.int .u32 0, .int .u32 0, .int .i64 0, .int .i64 0, .int .i64 0, .bool false, .bool false, .int .i64 0, .string ⟨#[]⟩]

set_option maxHeartbeats 1000000 in
theorem read_flt (s : ByteArray) (w : World) (h : 20 ≤ s.size) (hs : s.size ≤ 281474976710656) (hf : flt (Bs s) s.size ≠ 0) :
    Calls Try.prog 12 #[.string s] w fun e w' => e = .returned (.tuple #[pv pz, .int .i64 (flt (Bs s) s.size)]) ∧ Below w.heap.size w w' := by
  have hge : ¬ (s.size : Int) < 20 := by omega
  have b0 : Below w.heap.size w ((w.alloc (.cells pzc 24)).alloc (.cells (cb (hb s)).toArray 40)) := ((Below.refl _ _).alloc (Nat.le_refl _) _).alloc (by simp) _
  have e1 : (w.alloc (.cells pzc 24)).heap.size = w.heap.size + 1 := by simp
  have hcp : (Builtin.copy_ #[42, 9] 3 #[.slice (some ⟨w.heap.size + 1, 0, none⟩) 20 20, .string s]).run Try.prog ((w.alloc (.cells pzc 24)).alloc (.cells z20 40)) = .ok (.int .i64 20) ((w.alloc (.cells pzc 24)).alloc (.cells (cb (hb s)).toArray 40)) := by
    have hn := heap_alloc_new (w.alloc (.cells pzc 24)) (.cells z20 40)
    rw [e1] at hn
    have hc := copy_long ((w.alloc (.cells pzc 24)).alloc (.cells z20 40)) (w.heap.size + 1) 20 20 s z20 40 hn rfl h
    have hr := World.setRow_alloc_new (w.alloc (.cells pzc 24)) z20 (cb (hb s)).toArray 40
    rw [e1] at hr
    rw [hc]
    exact congrArg (Result.ok _) hr
  have R0 : Hid (((w.alloc (.cells pzc 24)).alloc (.cells (cb (hb s)).toArray 40)).heap[w.heap.size + 1]? = some (.cells (cb (hb s)).toArray 40 (0, 0))) := by
    have hn := heap_alloc_new (w.alloc (.cells pzc 24)) (.cells (cb (hb s)).toArray 40)
    rwa [e1] at hn
  have P0 : Hid (PB w.heap.size pz ((w.alloc (.cells pzc 24)).alloc (.cells (cb (hb s)).toArray 40))) := PB.alloc (p := pz) (show PB w.heap.size pz (w.alloc (.cells pzc 24)) from PB.new w pz) _
  have HU := Lib.hid Try.underlying40
  have HI : Hid ((Try.prog.info? 40).map (·.size) = some (cb (hb s)).length) := by show _ = _; rw [cb_length, hb_len s h]; exact info40
  have HL := Lib.hid (hb_len s h)
  have HU24 := Lib.hid Try.underlying24
  have HFt : Hid (∀ w', Calls Try.prog 24 #[.agg (cb (hb s)).toArray, .int .i64 (s.size : Int)] w' fun e w'' => e = .returned (.int .i64 (flt (Bs s) s.size)) ∧ Below w'.heap.size w' w'') := fun w' => faultS s h hs w'
  have HPk : Hid (∀ w', Calls Try.prog 25 #[.agg (cb (hb s)).toArray] w' fun e w'' => e = .returned (pv (pk0 (Bs s))) ∧ Below w'.heap.size w' w'') := fun w' => packetS s h w'
  clear e1
  generalize flt (Bs s) s.size = F at *
  have hne : (F != 0) = true := by simpa using hf
  go_enter Try.func12, Try.ntmps12
  go_wp2_with (refine wpList_load_mid rfl _ _ rfl _ _ rfl (cb (hb s)) _ (HB20 R0.out HL.out) HU.out rfl HI.out ?_)
  refine (HFt.out _).mono ?_; rintro e w1 ⟨rfl, hb1⟩
  have P1 := Lib.hid (P0.out.keep hb1)
  have R1 : Hid (w1.heap[w.heap.size + 1]? = some (.cells (cb (hb s)).toArray 40 (0, 0))) := (hb1.block _ (lt_of_heap R0.out)).trans R0.out
  have b1 := b0.trans (hb1.mono (by simp; omega))
  clear hcp R0 P0 b0 hb1
  go_wp2_with (refine wpList_store_mid rfl _ _ _ rfl _ _ (pc pz) rfl rfl P1.out.there info24 (pc_one pz) ?_)
  exact bodyPost_ret (v := .tuple #[pv pz, .int .i64 F]) (by simp [results, Try.results12, Act.put, asAddr, told w1 w.heap.size pz pz P1.out]) rfl ⟨rfl, below_setCells b1 (Nat.le_refl _) _ _⟩

theorem PB.setBody {g : Nat} {p : Pk} {W : World} (h : PB g p W) (b : ByteArray) : PB g { p with body := b } (W.setCell ⟨g, 8, none⟩ (.string b)) := by
  have e := Joins.block_setCell (i := 8) h (.string b)
  exact e
theorem PB.setOther {g k : Nat} {p : Pk} {W : World} (h : PB g p W) (hk : g ≠ k) (i : Nat) (v : Value) : PB g p (W.setCell ⟨k, i, none⟩ v) := (heap_setCell_other _ _ _ _ (by exact hk)).trans h

set_option maxHeartbeats 2000000 in
theorem read_chk (s : ByteArray) (w : World) (h : 20 ≤ s.size) (hs : s.size ≤ 281474976710656) (hf : flt (Bs s) s.size = 0) (hk : chk (rp s) ≠ 0) :
    Calls Try.prog 12 #[.string s] w fun e w' => e = .returned (.tuple #[pv pz, .int .i64 (chk (rp s))]) ∧ Below w.heap.size w w' := by
  have hge : ¬ (s.size : Int) < 20 := by omega
  have b0 : Below w.heap.size w ((w.alloc (.cells pzc 24)).alloc (.cells (cb (hb s)).toArray 40)) := ((Below.refl _ _).alloc (Nat.le_refl _) _).alloc (by simp) _
  have e1 : (w.alloc (.cells pzc 24)).heap.size = w.heap.size + 1 := by simp
  have hcp : (Builtin.copy_ #[42, 9] 3 #[.slice (some ⟨w.heap.size + 1, 0, none⟩) 20 20, .string s]).run Try.prog ((w.alloc (.cells pzc 24)).alloc (.cells z20 40)) = .ok (.int .i64 20) ((w.alloc (.cells pzc 24)).alloc (.cells (cb (hb s)).toArray 40)) := by
    have hn := heap_alloc_new (w.alloc (.cells pzc 24)) (.cells z20 40)
    rw [e1] at hn
    have hc := copy_long ((w.alloc (.cells pzc 24)).alloc (.cells z20 40)) (w.heap.size + 1) 20 20 s z20 40 hn rfl h
    have hr := World.setRow_alloc_new (w.alloc (.cells pzc 24)) z20 (cb (hb s)).toArray 40
    rw [e1] at hr
    rw [hc]
    exact congrArg (Result.ok _) hr
  have R0 : Hid (((w.alloc (.cells pzc 24)).alloc (.cells (cb (hb s)).toArray 40)).heap[w.heap.size + 1]? = some (.cells (cb (hb s)).toArray 40 (0, 0))) := by
    have hn := heap_alloc_new (w.alloc (.cells pzc 24)) (.cells (cb (hb s)).toArray 40)
    rwa [e1] at hn
  have P0 : Hid (PB w.heap.size pz ((w.alloc (.cells pzc 24)).alloc (.cells (cb (hb s)).toArray 40))) := PB.alloc (p := pz) (show PB w.heap.size pz (w.alloc (.cells pzc 24)) from PB.new w pz) _
  have HU := Lib.hid Try.underlying40
  have HI : Hid ((Try.prog.info? 40).map (·.size) = some (cb (hb s)).length) := by show _ = _; rw [cb_length, hb_len s h]; exact info40
  have HL := Lib.hid (hb_len s h)
  have HU24 := Lib.hid Try.underlying24
  have HFt : Hid (∀ w', Calls Try.prog 24 #[.agg (cb (hb s)).toArray, .int .i64 (s.size : Int)] w' fun e w'' => e = .returned (.int .i64 (flt (Bs s) s.size)) ∧ Below w'.heap.size w' w'') := fun w' => faultS s h hs w'
  have HPk : Hid (∀ w', Calls Try.prog 25 #[.agg (cb (hb s)).toArray] w' fun e w'' => e = .returned (pv (pk0 (Bs s))) ∧ Below w'.heap.size w' w'') := fun w' => packetS s h w'
  clear e1
  have hsl : ∀ w', (Instr.slice 9 (.string s) (some (.int .i64 20)) none none).run Try.prog w' = .ok (.string (s.extract 20 s.size)) w' := fun w' => by
    have := run_slice_string_l (P := Try.prog) w' 9 s Try.underlying9 .i64 20 (by omega) (by omega)
    simpa using this
  have HCl : Hid (∀ w', Calls Try.prog 26 #[.string (s.extract 20 s.size)] w' fun e w'' => e = .returned (.string (s.extract 20 s.size)) ∧ Below w'.heap.size w' w'') := fun w' => clone_any _ w' (by simp; omega)
  have HCk : Hid (∀ w', Calls Try.prog 10 #[pv (rp s)] w' fun e w'' => e = .returned (.int .i64 (chk (rp s))) ∧ Below w'.heap.size w' w'') := fun w' => pchk_any (rp s) w'
  rw [hf] at HFt
  generalize chk (rp s) = F at *
  have hne : (F != 0) = true := by simpa using hk
  go_enter Try.func12, Try.ntmps12
  go_wp2_with (refine wpList_load_mid rfl _ _ rfl _ _ rfl (cb (hb s)) _ (HB20 R0.out HL.out) HU.out rfl HI.out ?_)
  refine (HFt.out _).mono ?_; rintro e w1 ⟨rfl, hb1⟩
  have P1 := Lib.hid (P0.out.keep hb1)
  have R1 : Hid (w1.heap[w.heap.size + 1]? = some (.cells (cb (hb s)).toArray 40 (0, 0))) := (hb1.block _ (lt_of_heap R0.out)).trans R0.out
  have b1 := b0.trans (hb1.mono (by simp; omega))
  clear hcp R0 P0 b0 hb1
  go_wp2_with (refine wpList_load_mid rfl _ _ rfl _ _ rfl (cb (hb s)) _ (HB20 R1.out HL.out) HU.out rfl HI.out ?_)
  refine (HPk.out _).mono ?_; rintro e w2 ⟨rfl, hb2⟩
  have P2 := Lib.hid (P1.out.keep hb2)
  have b2 := b1.trans (hb2.mono (Nat.le_of_lt P1.out.lt))
  have S2 := Lib.hid (PB.new w2 (pk0 (Bs s)))
  have P2a := Lib.hid (P2.out.alloc (.cells (pc (pk0 (Bs s))) 24))
  have b2a := b2.alloc (by have := b2.size; omega) (.cells (pc (pk0 (Bs s))) 24)
  clear P1 R1 b1 hb2
  go_wp2_with fail
  refine (HCl.out _).mono ?_; rintro e w3 ⟨rfl, hb3⟩
  have P3 := Lib.hid (P2a.out.keep hb3)
  have S3 := Lib.hid (S2.out.keep hb3)
  have b3 := b2a.trans (hb3.mono (by simp; have := b2.size; omega))
  have hne2 : w.heap.size ≠ w2.heap.size := Nat.ne_of_lt P2.out.lt
  have x8 : w3.cell? ⟨w2.heap.size, 8, none⟩ = some (.string (pk0 (Bs s)).body) := (show w3.cell? ⟨w2.heap.size, 8, none⟩ = some (.string (pk0 (Bs s)).body) from Joins.cell_of_block S3.out 8)
  have f8 : w3.frozen? ⟨w2.heap.size, 8, none⟩ = false := Joins.unfrozen_of_block S3.out 8
  have S4 : Hid (PB w2.heap.size (rp s) (w3.setCell ⟨w2.heap.size, 8, none⟩ (.string (s.extract 20 s.size)))) := S3.out.setBody (s.extract 20 s.size)
  have P4 := Lib.hid (P3.out.setOther hne2 8 (.string (s.extract 20 s.size)))
  have b4 := b3.setCell (p := ⟨w2.heap.size, 8, none⟩) (show w.heap.size ≤ w2.heap.size from Nat.le_of_lt P2.out.lt) (.string (s.extract 20 s.size))
  clear S2 P2a b2a hb3 P3 S3 b3
  go_wp2_with (refine wpList_load_mid rfl _ _ rfl _ _ rfl (pcl (rp s)) _ S4.out.range HU24.out rfl info24 ?_)
  refine (HCk.out _).mono ?_; rintro e w5 ⟨rfl, hb5⟩
  have P5 := Lib.hid (P4.out.keep hb5)
  have S5 := Lib.hid (S4.out.keep hb5)
  have b5 := b4.trans (hb5.mono (Nat.le_of_lt P4.out.lt))
  clear x8 f8 S4 P4 b4 hb5
  go_wp2_with (refine wpList_store_mid rfl _ _ _ rfl _ _ (pc pz) rfl rfl P5.out.there info24 (pc_one pz) ?_)
  exact bodyPost_ret (v := .tuple #[pv pz, .int .i64 F]) (by simp [results, Try.results12, Act.put, asAddr, told w5 w.heap.size pz pz P5.out]) rfl ⟨rfl, below_setCells b5 (Nat.le_refl _) _ _⟩

set_option maxHeartbeats 2000000 in
theorem read_ok (s : ByteArray) (w : World) (h : 20 ≤ s.size) (hs : s.size ≤ 281474976710656) (hf : flt (Bs s) s.size = 0) (hk : chk (rp s) = 0) :
    Calls Try.prog 12 #[.string s] w fun e w' => e = .returned (.tuple #[pv (rp s), .int .i64 0]) ∧ Below w.heap.size w w' := by
  have hge : ¬ (s.size : Int) < 20 := by omega
  have b0 : Below w.heap.size w ((w.alloc (.cells pzc 24)).alloc (.cells (cb (hb s)).toArray 40)) := ((Below.refl _ _).alloc (Nat.le_refl _) _).alloc (by simp) _
  have e1 : (w.alloc (.cells pzc 24)).heap.size = w.heap.size + 1 := by simp
  have hcp : (Builtin.copy_ #[42, 9] 3 #[.slice (some ⟨w.heap.size + 1, 0, none⟩) 20 20, .string s]).run Try.prog ((w.alloc (.cells pzc 24)).alloc (.cells z20 40)) = .ok (.int .i64 20) ((w.alloc (.cells pzc 24)).alloc (.cells (cb (hb s)).toArray 40)) := by
    have hn := heap_alloc_new (w.alloc (.cells pzc 24)) (.cells z20 40)
    rw [e1] at hn
    have hc := copy_long ((w.alloc (.cells pzc 24)).alloc (.cells z20 40)) (w.heap.size + 1) 20 20 s z20 40 hn rfl h
    have hr := World.setRow_alloc_new (w.alloc (.cells pzc 24)) z20 (cb (hb s)).toArray 40
    rw [e1] at hr
    rw [hc]
    exact congrArg (Result.ok _) hr
  have R0 : Hid (((w.alloc (.cells pzc 24)).alloc (.cells (cb (hb s)).toArray 40)).heap[w.heap.size + 1]? = some (.cells (cb (hb s)).toArray 40 (0, 0))) := by
    have hn := heap_alloc_new (w.alloc (.cells pzc 24)) (.cells (cb (hb s)).toArray 40)
    rwa [e1] at hn
  have P0 : Hid (PB w.heap.size pz ((w.alloc (.cells pzc 24)).alloc (.cells (cb (hb s)).toArray 40))) := PB.alloc (p := pz) (show PB w.heap.size pz (w.alloc (.cells pzc 24)) from PB.new w pz) _
  have HU := Lib.hid Try.underlying40
  have HI : Hid ((Try.prog.info? 40).map (·.size) = some (cb (hb s)).length) := by show _ = _; rw [cb_length, hb_len s h]; exact info40
  have HL := Lib.hid (hb_len s h)
  have HU24 := Lib.hid Try.underlying24
  have HFt : Hid (∀ w', Calls Try.prog 24 #[.agg (cb (hb s)).toArray, .int .i64 (s.size : Int)] w' fun e w'' => e = .returned (.int .i64 (flt (Bs s) s.size)) ∧ Below w'.heap.size w' w'') := fun w' => faultS s h hs w'
  have HPk : Hid (∀ w', Calls Try.prog 25 #[.agg (cb (hb s)).toArray] w' fun e w'' => e = .returned (pv (pk0 (Bs s))) ∧ Below w'.heap.size w' w'') := fun w' => packetS s h w'
  clear e1
  have hsl : ∀ w', (Instr.slice 9 (.string s) (some (.int .i64 20)) none none).run Try.prog w' = .ok (.string (s.extract 20 s.size)) w' := fun w' => by
    have := run_slice_string_l (P := Try.prog) w' 9 s Try.underlying9 .i64 20 (by omega) (by omega)
    simpa using this
  have HCl : Hid (∀ w', Calls Try.prog 26 #[.string (s.extract 20 s.size)] w' fun e w'' => e = .returned (.string (s.extract 20 s.size)) ∧ Below w'.heap.size w' w'') := fun w' => clone_any _ w' (by simp; omega)
  have HCk : Hid (∀ w', Calls Try.prog 10 #[pv (rp s)] w' fun e w'' => e = .returned (.int .i64 (chk (rp s))) ∧ Below w'.heap.size w' w'') := fun w' => pchk_any (rp s) w'
  rw [hf] at HFt
  rw [hk] at HCk
  go_enter Try.func12, Try.ntmps12
  go_wp2_with (refine wpList_load_mid rfl _ _ rfl _ _ rfl (cb (hb s)) _ (HB20 R0.out HL.out) HU.out rfl HI.out ?_)
  refine (HFt.out _).mono ?_; rintro e w1 ⟨rfl, hb1⟩
  have P1 := Lib.hid (P0.out.keep hb1)
  have R1 : Hid (w1.heap[w.heap.size + 1]? = some (.cells (cb (hb s)).toArray 40 (0, 0))) := (hb1.block _ (lt_of_heap R0.out)).trans R0.out
  have b1 := b0.trans (hb1.mono (by simp; omega))
  clear hcp R0 P0 b0 hb1
  go_wp2_with (refine wpList_load_mid rfl _ _ rfl _ _ rfl (cb (hb s)) _ (HB20 R1.out HL.out) HU.out rfl HI.out ?_)
  refine (HPk.out _).mono ?_; rintro e w2 ⟨rfl, hb2⟩
  have P2 := Lib.hid (P1.out.keep hb2)
  have b2 := b1.trans (hb2.mono (Nat.le_of_lt P1.out.lt))
  have S2 := Lib.hid (PB.new w2 (pk0 (Bs s)))
  have P2a := Lib.hid (P2.out.alloc (.cells (pc (pk0 (Bs s))) 24))
  have b2a := b2.alloc (by have := b2.size; omega) (.cells (pc (pk0 (Bs s))) 24)
  clear P1 R1 b1 hb2
  go_wp2_with fail
  refine (HCl.out _).mono ?_; rintro e w3 ⟨rfl, hb3⟩
  have P3 := Lib.hid (P2a.out.keep hb3)
  have S3 := Lib.hid (S2.out.keep hb3)
  have b3 := b2a.trans (hb3.mono (by simp; have := b2.size; omega))
  have hne2 : w.heap.size ≠ w2.heap.size := Nat.ne_of_lt P2.out.lt
  have x8 : w3.cell? ⟨w2.heap.size, 8, none⟩ = some (.string (pk0 (Bs s)).body) := (show w3.cell? ⟨w2.heap.size, 8, none⟩ = some (.string (pk0 (Bs s)).body) from Joins.cell_of_block S3.out 8)
  have f8 : w3.frozen? ⟨w2.heap.size, 8, none⟩ = false := Joins.unfrozen_of_block S3.out 8
  have S4 : Hid (PB w2.heap.size (rp s) (w3.setCell ⟨w2.heap.size, 8, none⟩ (.string (s.extract 20 s.size)))) := S3.out.setBody (s.extract 20 s.size)
  have P4 := Lib.hid (P3.out.setOther hne2 8 (.string (s.extract 20 s.size)))
  have b4 := b3.setCell (p := ⟨w2.heap.size, 8, none⟩) (show w.heap.size ≤ w2.heap.size from Nat.le_of_lt P2.out.lt) (.string (s.extract 20 s.size))
  clear S2 P2a b2a hb3 P3 S3 b3
  go_wp2_with (refine wpList_load_mid rfl _ _ rfl _ _ rfl (pcl (rp s)) _ S4.out.range HU24.out rfl info24 ?_)
  refine (HCk.out _).mono ?_; rintro e w5 ⟨rfl, hb5⟩
  have P5 := Lib.hid (P4.out.keep hb5)
  have S5 := Lib.hid (S4.out.keep hb5)
  have b5 := b4.trans (hb5.mono (Nat.le_of_lt P4.out.lt))
  clear x8 f8 S4 P4 b4 hb5
  go_wp2_with (first | (refine wpList_load_mid rfl _ _ rfl _ _ rfl (pcl (rp s)) _ S5.out.range HU24.out rfl info24 ?_) | (refine wpList_store_mid rfl _ _ _ rfl _ _ (pc (rp s)) rfl rfl P5.out.there info24 (pc_one (rp s)) ?_))
  exact bodyPost_ret (v := .tuple #[pv (rp s), .int .i64 0]) (by simp [results, Try.results12, Act.put, asAddr, told w5 w.heap.size pz (rp s) P5.out]) rfl ⟨rfl, below_setCells b5 (Nat.le_refl _) _ _⟩
end Go.Proofs.Ytlkodoiiigndoaa
