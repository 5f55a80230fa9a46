/-
  The walk of FragLate.
-/
import Derived.Test.YtfnmcnbiahfnfaaLs
namespace Go.Proofs.Ytfnmcnbiahfnfaa
open Go.RowKit Go.Maps
set_option linter.unusedVariables false
set_option linter.unusedSimpArgs false

set_option maxHeartbeats 8000000 in
set_option maxRecDepth 100000 in
theorem late_walk (o : Option Addr) (b off len cap : Nat) (C : Nat → List Value) (S : Nat → Stp) (m : Int) (w : World) (hb : 0 < len → o = some ⟨b, off, none⟩ ∧ b < w.heap.size) (hS : StepsAt w b off len C S) (hlen : len ≤ maxLen) (hm : -9223372036854775808 ≤ m ∧ m ≤ 9223372036854775807) :
    Calls Try.prog 7 #[.slice o len cap, .int .i64 m] w fun e w' => e = .returned (.bool true) ∧ Below w.heap.size w w' := by
  unfold maxLen at hlen
  have HN : Hid (∀ w', Calls Try.prog 12 #[] w' fun e w'' => e = .returned (.pointer (some ⟨w'.heap.size + 1, 0, none⟩)) ∧ Tab w'' (w'.heap.size + 1) w'.heap.size [] ∧ Below w'.heap.size w' w'') := new_any
  have HT1 : Hid (∀ tb w', Calls Try.prog 13 #[.pointer (some ⟨tb, 0, none⟩), .int .i64 (-1)] w' fun e w'' => e = .returned (.int .i64 1) ∧ w'' = w') := fun tb w' => tick_neg tb (-1) w' (by omega)
  have HIn : Hid (∀ tb mb A p w', Tab w' tb mb A → Fits p → Calls Try.prog 16 #[.pointer (some ⟨tb, 0, none⟩), pv p] w' (InPost w' tb mb A p)) := fun tb mb A p w' h f => in_any tb mb A p w' h f
  have HOp : Hid (∀ tb mb A w', Tab w' tb mb A → Calls Try.prog 18 #[.pointer (some ⟨tb, 0, none⟩)] w' fun e w'' => e = .returned (.int .i64 (A.length : Int)) ∧ w'' = w') := open_any
  have HR : Hid (∃ r : Int, 0 ≤ r ∧ r < 30 ∧ ∀ w', Calls Try.prog 21 #[.int .i64 m, .int .i64 30] w' fun e w'' => e = .returned (.int .i64 r) ∧ w'' = w') := ⟨m % 30, by omega, by omega, fun w' => rest_any m 30 w' (by omega) (by omega) hm.1 hm.2⟩
  obtain ⟨r, hr0, hr1, HR⟩ := HR.out
  have HR := Lib.hid HR
  have HTk : Hid (∀ (n : Int) tb mb A w', 0 ≤ n → Tab w' tb mb A → (∀ e ∈ A, 0 ≤ e.g.left ∧ e.g.left ≤ 1000) → Calls Try.prog 13 #[.pointer (some ⟨tb, 0, none⟩), .int .i64 n] w' fun e w'' => e = .returned (.int .i64 0) ∧ Tab w'' tb mb (tickA n A) ∧ Kp (mb :: blks A) w' w'') := fun n tb mb A w' hn h hl => tick_pos tb mb A n w' hn h hl
  have HB0 := Lib.hid hb
  have HS0 := Lib.hid hS
  clear hb hS hm
  go_enter Try.func7, Try.ntmps7
  go_wp2_with fail
  refine (HN.out _).mono ?_; rintro e w1 ⟨rfl, hT1, hb1⟩
  have L1 : Hid (LS w w1 (w.heap.size + 1) w.heap.size []) := ⟨hT1, hb1, by simp [blks]⟩
  clear hT1 hb1
  go_wp2_with fail
  refine (HT1.out _ _).mono ?_; rintro e w2 ⟨rfl, rfl⟩
  go_wp2_with fail
  go_loopw [19] (fun i W => ∃ (k : Nat) (A : List Ent), k ≤ len ∧ i = .int .i64 k ∧ LS w W (w.heap.size + 1) w.heap.size A ∧ Lft 30 (abs A)) (fun i _ => len - (intOf i).toNat)
  case atStart => exact ⟨0, [], Nat.zero_le _, rfl, L1.out, fun x hx => by cases hx⟩
  case round =>
    obtain ⟨k, A, hk, rfl, hL, hLf⟩ := hrel
    have L := Lib.hid hL
    have HLf := Lib.hid hLf
    have hA8 := hL.tab.le
    clear hL hLf
    by_cases hlt : k < len
    · obtain ⟨ho, hbb⟩ := HB0.out (by omega)
      subst ho
      obtain ⟨hr', hcs⟩ := HS0.out k hlt
      have hsz := L.out.be.size
      have hrr : Hid (wr.rangeAt b (off + k * 45) (C k)) := fun j v hv => by
        rw [L.out.be.cell (p := ⟨b, off + k * 45 + j, none⟩) hbb]; exact hr' j v hv
      have HC := Lib.hid hcs
      have HI : Hid ((Try.prog.info? 50).map (·.size) = some (C k).length) := by show _ = _; rw [hcs.len]; exact info50
      have HI' : Hid ((Try.prog.info? 50).map (·.size) = some (C k).toArray.size) := by show _ = _; rw [List.size_toArray, hcs.len]; exact info50
      have H45 : Hid (45 = (C k).toArray.size) := by show _ = _; rw [List.size_toArray, hcs.len]
      have H1 := Lib.hid (all_oneCell_toArray hcs.one)
      have PK := Lib.hid (step_range (heap_alloc_new wr (.cells (C k).toArray 50)) hcs)
      have HF := Lib.hid hcs.fits
      have L2 := Lib.hid (L.out.alloc (.cells (C k).toArray 50))
      have HU := Lib.hid Try.underlying24
      have HI24 : Hid ((Try.prog.info? 24).map (·.size) = some 9) := info24
      clear hcs hr' hbb
      generalize C k = cs at *
      generalize (S k).pack = q at *
      go_wp2_with (first | (refine wpList_load_mid rfl 50 _ rfl b (off + k * 45) rfl cs _ hrr.out Try.underlying50 rfl HI.out ?_) | (refine wpList_store_last rfl 50 _ _ rfl wr _ cs.toArray rfl rfl rfl HI'.out H45.out H1.out ?_) | (refine wpList_load_mid rfl 24 _ rfl wr.heap.size 7 rfl (pcl q) _ PK.out HU.out rfl HI24.out ?_))
      refine (HIn.out _ _ _ _ _ L2.out.tab HF.out).mono ?_; rintro e w3 ⟨A', rfl, hT3, hab, hk3, hs3⟩
      have L3 := Lib.hid (L2.out.in hT3 hk3 hs3)
      have HLf3 : Hid (Lft 30 (abs A')) := by show Lft 30 _; rw [hab]; exact HLf.out.inM q
      have hA3 := hT3.le
      clear hT3 hk3 hs3 hab
      generalize (inM (abs A) q).1 = V at *
      go_wp2_with fail
      refine (HOp.out _ _ _ _ L3.out.tab).mono ?_; rintro e w4 ⟨rfl, rfl⟩
      have h8 : ¬ ((8 : Int) < (A'.length : Int)) := by omega
      have h0 : ¬ ((A'.length : Int) < 0) := by omega
      go_wp2_with fail
      refine (HOp.out _ _ _ _ L3.out.tab).mono ?_; rintro e w4 ⟨rfl, rfl⟩
      go_wp2_with fail
      go_roundw
      case rel => exact ⟨k + 1, A', by omega, by go_num, L3.out, HLf3.out⟩
      case measure => simp [intOf]; omega
    · have hlt' : ¬ ((k : Int) < (len : Int)) := by omega
      go_wp2_with fail
      refine (HOp.out _ _ _ _ L.out.tab).mono ?_; rintro e w4 ⟨rfl, rfl⟩
      go_wp2_with fail
      refine (HR.out _).mono ?_; rintro e w5 ⟨rfl, rfl⟩
      have hl30 := lft_abs HLf.out
      obtain ⟨ht1, ht2⟩ := tick_some hl30 (show r < 30 by omega)
      go_wp2_with fail
      refine (HTk.out _ _ _ _ _ hr0 L.out.tab (fun e he => by rw [hl30 e he]; omega)).mono ?_; rintro e w6 ⟨rfl, hT6, hK6⟩
      have L6 := Lib.hid (L.out.in hT6 hK6 (fun k hk => Or.inl (blks_tick k hk)))
      have HT2 := Lib.hid ht2
      have hE2 : tickA (30 - r) (tickA r A) = [] := tick_none ht2 (by omega)
      have HE2 := Lib.hid hE2
      clear hT6 hK6 ht2 hE2 hl30
      go_wp2_with fail
      refine (HOp.out _ _ _ _ L6.out.tab).mono ?_; rintro e w7 ⟨rfl, rfl⟩
      go_wp2_with fail
      refine (HTk.out (30 - r) _ _ _ _ (by omega) L6.out.tab (fun e he => by rw [HT2.out e he]; omega)).mono ?_; rintro e w8 ⟨rfl, hT8, hK8⟩
      rw [HE2.out] at hT8
      have L8 := Lib.hid (L6.out.in hT8 hK8 (fun k hk => by cases hk))
      clear hT8 hK8
      go_wp2_with fail
      refine (HOp.out _ _ _ _ L8.out.tab).mono ?_; rintro e w9 ⟨rfl, rfl⟩
      go_wp2_with fail
      go_ret
      exact ⟨rfl, L8.out.be⟩
end Go.Proofs.Ytfnmcnbiahfnfaa
