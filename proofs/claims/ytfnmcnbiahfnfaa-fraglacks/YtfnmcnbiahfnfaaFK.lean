/-
  The walk of FragLacks.
-/
import Derived.Test.YtfnmcnbiahfnfaaMi
namespace Go.Proofs.Ytfnmcnbiahfnfaa
open Go.RowKit Go.Maps
set_option linter.unusedVariables false
set_option linter.unusedSimpArgs false

set_option maxHeartbeats 8000000 in
set_option maxRecDepth 100000 in
theorem lacks_walk (p0 : Pk) (mtu lk : Int) (o : Option Addr) (b off len cap : Nat) (Z : Nat → Int) (w : World) (f0 : Fits p0) (_m : -9223372036854775808 ≤ mtu ∧ mtu ≤ 9223372036854775807) (hlk : -9223372036854775808 ≤ lk ∧ lk ≤ 9223372036854775807)
    (hb : 0 < len → o = some ⟨b, off, none⟩ ∧ b < w.heap.size) (hZ : ∀ i, i < len → w.cell? ⟨b, off + i, none⟩ = some (.int .i64 (Z i)) ∧ -9223372036854775808 ≤ Z i ∧ Z i ≤ 9223372036854775807) (hlen : len ≤ maxLen) :
    Calls Try.prog 8 #[pv p0, .int .i64 mtu, .int .i64 lk, .slice o len cap] w fun e w' => e = .returned (.bool true) ∧ Below w.heap.size w w' := by
  unfold maxLen at hlen
  obtain ⟨p, hp⟩ : ∃ p : Pk, p = { p0 with more := false, off := 0, dont := false } := ⟨_, rfl⟩
  have HF : Hid (Fits p) := by rw [hp]; exact ⟨f0.src, f0.dst, f0.proto, f0.ttl, f0.id, ⟨by simp, by simp⟩, f0.body⟩
  have HS : Hid (∀ w', Calls Try.prog 9 #[pv { p0 with more := false, off := 0, dont := false }, .int .i64 mtu] w' fun e w'' => ∃ v, e = .returned (.tuple #[v, .int .i64 (sperr p mtu)]) ∧ PRow w'' w'.heap.size v (spl p mtu) ∧ Below w'.heap.size w' w'') := fun w' => by
    rw [← hp]
    exact split_any p mtu w'
  have HN : Hid (∀ w', Calls Try.prog 12 #[] w' fun e w'' => e = .returned (.pointer (some ⟨w'.heap.size + 1, 0, none⟩)) ∧ Tab w'' (w'.heap.size + 1) w'.heap.size [] ∧ Below w'.heap.size w' w'') := new_any
  have HT1 : Hid (∀ tb w', Calls Try.prog 13 #[.pointer (some ⟨tb, 0, none⟩), .int .i64 (-1)] w' fun e w'' => e = .returned (.int .i64 1) ∧ w'' = w') := fun tb w' => tick_neg tb (-1) w' (by omega)
  have HIn : Hid (∀ tb mb A q w', Tab w' tb mb A → Fits q → Calls Try.prog 16 #[.pointer (some ⟨tb, 0, none⟩), pv q] w' (InPost w' tb mb A q)) := fun tb mb A q w' h f => in_any tb mb A q w' h f
  have HOp : Hid (∀ tb mb A w', Tab w' tb mb A → Calls Try.prog 18 #[.pointer (some ⟨tb, 0, none⟩)] w' fun e w'' => e = .returned (.int .i64 (A.length : Int)) ∧ w'' = w') := open_any
  have HR : Hid (∀ (z m : Int) w', 1 ≤ m → m ≤ 9223372036854775807 → -9223372036854775808 ≤ z → z ≤ 9223372036854775807 → Calls Try.prog 21 #[.int .i64 z, .int .i64 m] w' fun e w'' => e = .returned (.int .i64 (z % m)) ∧ w'' = w') := fun z m w' h1 h2 h3 h4 => rest_any z m w' h1 h2 h3 h4
  have P0 := Lib.hid (PB.new w p)
  have b0 : Below w.heap.size w (w.alloc (.cells (pc p) 24)) := (Below.refl _ _).alloc (Nat.le_refl _) _
  have HU := Lib.hid Try.underlying24
  have HI : Hid ((Try.prog.info? 24).map (·.size) = some 9) := info24
  have HB0 := Lib.hid hb
  have HZ0 := Lib.hid hZ
  clear hb hZ f0
  by_cases he : sperr p mtu = 0
  · obtain ⟨R, n, F⟩ := frm_of he
    rw [he] at HS
    have HFr := Lib.hid F
    have hln := F.len
    have hn4 := F.le
    have hn1 := F.pos
    clear F he
    rw [hp] at P0 b0
    go_enter Try.func8, Try.ntmps8
    go_wp2_with (refine wpList_load_mid rfl 24 _ rfl _ _ rfl (pcl _) _ P0.out.range HU.out rfl HI.out ?_)
    refine (HS.out _).mono ?_; rintro e w2 ⟨v, rfl, hR2, hb2⟩
    have b2 := b0.trans (hb2.mono (by simp))
    obtain ⟨lo, g, lcap, rfl, hform⟩ := hR2.form
    rw [hln] at hform
    obtain ⟨rfl, hg1, hg2⟩ := hform hn1
    have R2 := Lib.hid hR2
    rw [hln] at R2
    rw [hln]
    clear hR2 hb2 hform
    go_wp2_with fail
    refine (HN.out _).mono ?_; rintro e w3 ⟨rfl, hT3, hb3⟩
    have L3 : Hid (LS w2 w3 (w2.heap.size + 1) w2.heap.size []) := ⟨hT3, hb3, by simp [blks]⟩
    clear hT3 hb3
    go_wp2_with fail
    refine (HT1.out _ _).mono ?_; rintro e w4 ⟨rfl, rfl⟩
    by_cases hn2 : n < 2
    · have hn2' : (n : Int) < 2 := by omega
      go_wp2_with fail
      go_ret
      exact ⟨rfl, b2.trans (L3.out.be.mono b2.size)⟩
    · have hn2' : ¬ ((n : Int) < 2) := by omega
      have h2n : 2 ≤ n := by omega
      go_wp2_with fail
      refine (HR.out _ _ _ (by omega) (by omega) hlk.1 hlk.2).mono ?_; rintro e w5 ⟨rfl, rfl⟩
      obtain ⟨k, hkk⟩ := Int.eq_ofNat_of_zero_le (Int.emod_nonneg lk (show (n : Int) ≠ 0 by omega))
      have hkn : k < n := by have := Int.emod_lt_of_pos lk (show (0 : Int) < (n : Int) by omega); omega
      rw [hkk]
      clear hkk hlk
      go_wp2_with fail
      go_loopw [56] (fun i W => ∃ (m : Nat) (A : List Ent), m ≤ len ∧ i = .int .i64 m ∧ LS w2 W (w2.heap.size + 1) w2.heap.size A ∧ Lk p R n k (abs A)) (fun i _ => len - (intOf i).toNat)
      case atStart => exact ⟨0, [], Nat.zero_le _, rfl, L3.out, Or.inl rfl⟩
      case round =>
        obtain ⟨m, A, hm, rfl, hL, hLk⟩ := hrel
        have L := Lib.hid hL
        have HLk := Lib.hid hLk
        have hA1 : A.length ≤ 1 := by have := hLk.len; simpa [abs] using this
        clear hL hLk
        by_cases hlt : m < len
        · obtain ⟨ho, hbb⟩ := HB0.out (by omega)
          subst ho
          obtain ⟨hz1, hz2, hz3⟩ := HZ0.out m hlt
          have hc1 : wr.cell? ⟨b, off + m, none⟩ = some (.int .i64 (Z m)) := by
            rw [L.out.be.cell (p := ⟨b, off + m, none⟩) (by have := b2.size; show b < w2.heap.size; omega), b2.cell (p := ⟨b, off + m, none⟩) hbb]; exact hz1
          clear hz1 hbb
          generalize Z m = z at *
          go_wp2_with fail
          refine (HR.out _ _ _ (by omega) (by omega) hz2 hz3).mono ?_; rintro e w6 ⟨rfl, rfl⟩
          obtain ⟨j, hjj⟩ := Int.eq_ofNat_of_zero_le (Int.emod_nonneg z (show (n : Int) ≠ 0 by omega))
          have hjn : j < n := by have := Int.emod_lt_of_pos z (show (0 : Int) < (n : Int) by omega); omega
          rw [hjj]
          clear hjj
          by_cases hjk : j = k
          · subst hjk
            have hq : ((j : Int) == (j : Int)) = true := by simp
            go_wp2_with fail
            go_roundw
            case rel => exact ⟨m + 1, A, by omega, by go_num, L.out, HLk.out⟩
            case measure => simp [intOf]; omega
          · have hq : ((j : Int) == (k : Int)) = false := by rw [beq_eq_false_iff_ne]; omega
            have hR6 := Lib.hid ((R2.out.on L.out.be).range (HFr.out.get hjn))
            have hFq : Hid (Fits (pk p R j)) := ⟨HF.out.src, HF.out.dst, HF.out.proto, HF.out.ttl, HF.out.id, by
              have := chk_zero (HFr.out.chk hjn); omega, by
              have := chk_zero (HFr.out.chk hjn); unfold maxLen; omega⟩
            obtain ⟨hv, hl2⟩ := HLk.out.step HFr.out h2n hjn hkn hjk
            have HV := Lib.hid hv
            have HL2 := Lib.hid hl2
            clear hv hl2
            generalize pk p R j = q at *
            go_wp2_with (refine wpList_load_mid rfl 24 _ rfl g (j * 9) rfl (pcl q) _ hR6.out HU.out rfl HI.out ?_)
            refine (HIn.out _ _ _ _ _ L.out.tab hFq.out).mono ?_; rintro e w7 ⟨A', rfl, hT7, hab, hk7, hs7⟩
            have L7 := Lib.hid (L.out.in hT7 hk7 hs7)
            have HLk7 : Hid (Lk p R n k (abs A')) := by show Lk p R n k _; rw [hab]; exact HL2.out
            rw [HV.out]
            have ez : pv (pz, false, (0 : Int)).1 = .agg pzc := rfl
            rw [ez]
            clear ez
            have L8 := Lib.hid (L7.out.alloc (.cells pzc 24))
            clear hT7 hab hk7 hs7
            go_wp2_with fail
            go_roundw
            case rel => exact ⟨m + 1, A', by omega, by go_num, L8.out, HLk7.out⟩
            case measure => simp [intOf]; omega
        · have hlt' : ¬ ((m : Int) < (len : Int)) := by omega
          go_wp2_with fail
          refine (HOp.out _ _ _ _ L.out.tab).mono ?_; rintro e w6 ⟨rfl, rfl⟩
          have hA1' : (A.length : Int) ≤ 1 := by omega
          go_wp2_with fail
          go_ret
          exact ⟨rfl, b2.trans (L.out.be.mono b2.size)⟩
  · have hsl := spl_bad he
    rw [hsl] at HS
    generalize sperr p mtu = E at *
    have hne : (E != 0) = true := by simpa using he
    have hne2 : (E == 0) = false := by simpa using he
    clear he hsl
    rw [hp] at P0 b0
    go_enter Try.func8, Try.ntmps8
    go_wp2_with (refine wpList_load_mid rfl 24 _ rfl _ _ rfl (pcl _) _ P0.out.range HU.out rfl HI.out ?_)
    refine (HS.out _).mono ?_; rintro e w2 ⟨v, rfl, hR2, hb2⟩
    have b2 := b0.trans (hb2.mono (by simp))
    obtain ⟨lo, g, lcap, rfl, hform⟩ := hR2.form
    go_wp2_with fail
    refine (HN.out _).mono ?_; rintro e w3 ⟨rfl, hT3, hb3⟩
    go_wp2_with fail
    refine (HT1.out _ _).mono ?_; rintro e w4 ⟨rfl, rfl⟩
    go_wp2_with fail
    go_ret
    exact ⟨rfl, b2.trans (hb3.mono b2.size)⟩
end Go.Proofs.Ytfnmcnbiahfnfaa
