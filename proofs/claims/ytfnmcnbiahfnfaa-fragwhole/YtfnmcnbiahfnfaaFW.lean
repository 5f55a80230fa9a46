/-
  The walk of FragWhole.
-/
import Derived.Test.YtfnmcnbiahfnfaaWi
namespace Go.Proofs.Ytfnmcnbiahfnfaa
open Go.RowKit Go.Maps
set_option linter.unusedVariables false
set_option linter.unusedSimpArgs false

set_option maxHeartbeats 4000000 in
set_option maxRecDepth 100000 in
theorem whole_walk (p0 q0 : Pk) (mtu : Int) (o : Option Addr) (b off len cap : Nat) (Z : Nat → Int) (w : World) (f0 : Fits p0) (g0 : Fits q0) (_m : -9223372036854775808 ≤ mtu ∧ mtu ≤ 9223372036854775807)
    (hb : 0 < len → o = some ⟨b, off, none⟩ ∧ b < w.heap.size) (hZ : ∀ i, i < len → w.cell? ⟨b, off + i, none⟩ = some (.int .i64 (Z i)) ∧ -9223372036854775808 ≤ Z i ∧ Z i ≤ 9223372036854775807) (hlen : len ≤ maxLen) :
    Calls Try.prog 6 #[pv p0, pv q0, .int .i64 mtu, .slice o len cap] w fun e w' => e = .returned (.bool true) ∧ Below w.heap.size w w' := by
  unfold maxLen at hlen
  obtain ⟨p, hp⟩ : ∃ p : Pk, p = { p0 with more := false, off := 0 } := ⟨_, rfl⟩
  obtain ⟨q, hq⟩ : ∃ q : Pk, q = { q0 with src := p0.src, dst := p0.dst, proto := p0.proto, id := bits .xor .i64 p0.id 1, more := false, off := 0 } := ⟨_, rfl⟩
  have FP : Hid (Fits p) := by rw [hp]; exact ⟨f0.src, f0.dst, f0.proto, f0.ttl, f0.id, ⟨by simp, by simp⟩, f0.body⟩
  have FQ : Hid (Fits q) := by rw [hq]; exact ⟨f0.src, f0.dst, f0.proto, g0.ttl, xor1_in _, ⟨by simp, by simp⟩, g0.body⟩
  have P2 : Hid (PB w.heap.size p ((w.alloc (.cells (pc p) 24)).alloc (.cells (pc q) 24)).drew) := ((PB.new w p).alloc _).drew
  have Q2 : Hid (PB (w.heap.size + 1) q ((w.alloc (.cells (pc p) 24)).alloc (.cells (pc q) 24)).drew) := by
    have := PB.new (w.alloc (.cells (pc p) 24)) q
    rw [show (w.alloc (.cells (pc p) 24)).heap.size = w.heap.size + 1 from by simp] at this
    exact this.drew
  have b2 : Below w.heap.size w ((w.alloc (.cells (pc p) 24)).alloc (.cells (pc q) 24)).drew := (((Below.refl _ _).alloc (Nat.le_refl _) _).alloc (by simp) _).drew
  have HU := Lib.hid Try.underlying24
  have HI : Hid ((Try.prog.info? 24).map (·.size) = some 9) := info24
  have HS : Hid (∀ (p : Pk) w', Calls Try.prog 9 #[pv p, .int .i64 mtu] w' fun e w'' => ∃ v, e = .returned (.tuple #[v, .int .i64 (sperr p mtu)]) ∧ PRow w'' w'.heap.size v (spl p mtu) ∧ Below w'.heap.size w' w'') := fun p w' => split_any p mtu w'
  have HN : Hid (∀ w', Calls Try.prog 12 #[] w' fun e w'' => e = .returned (.pointer (some ⟨w'.heap.size + 1, 0, none⟩)) ∧ Tab w'' (w'.heap.size + 1) w'.heap.size [] ∧ Below w'.heap.size w' w'') := new_any
  have HT1 : Hid (∀ tb w', Calls Try.prog 13 #[.pointer (some ⟨tb, 0, none⟩), .int .i64 (-1)] w' fun e w'' => e = .returned (.int .i64 1) ∧ w'' = w') := fun tb w' => tick_neg tb (-1) w' (by omega)
  have HR : Hid (∀ (z m : Int) w', 1 ≤ m → m ≤ 9223372036854775807 → -9223372036854775808 ≤ z → z ≤ 9223372036854775807 → Calls Try.prog 21 #[.int .i64 z, .int .i64 m] w' fun e w'' => e = .returned (.int .i64 (z % m)) ∧ w'' = w') := fun z m w' h1 h2 h3 h4 => rest_any z m w' h1 h2 h3 h4
  have HB0 := Lib.hid hb
  have HZ0 := Lib.hid hZ
  clear hb hZ
  rw [hp, hq] at P2 Q2 b2
  go_enter Try.func6, Try.ntmps6
  go_wp2_with fail
  go_region
  rw [← hp, ← hq] at P2 Q2 b2
  have hsp : ∀ w', Hid (Calls Try.prog 9 #[pv p, .int .i64 mtu] w' fun e w'' => ∃ v, e = .returned (.tuple #[v, .int .i64 (sperr p mtu)]) ∧ PRow w'' w'.heap.size v (spl p mtu) ∧ Below w'.heap.size w' w'') := fun w' => HS.out p w'
  have hpc : (pc { p0 with more := false, off := 0 }) = pc p := by rw [hp]
  change Exit.then _ _ Exit.normal _ ((w.alloc (.cells (pc { p0 with more := false, off := 0 }) 24)).alloc (.cells (pc { q0 with src := p0.src, dst := p0.dst, proto := p0.proto, id := bits .xor .i64 p0.id 1, more := false, off := 0 }) 24)).drew
  rw [← hp, ← hq]
  have HPe := Lib.hid hp
  have HQe := Lib.hid hq
  clear hp hq hpc
  generalize ((w.alloc (.cells (pc p) 24)).alloc (.cells (pc q) 24)).drew = W2 at *
  go_wp2_with (refine wpList_load_mid rfl 24 _ rfl w.heap.size 0 rfl (pcl p) _ P2.out.range HU.out rfl HI.out ?_)
  refine (HS.out p _).mono ?_; rintro e w3 ⟨v1, rfl, hR3, hb3⟩
  have P3 := Lib.hid (P2.out.keep hb3)
  have Q3 := Lib.hid (Q2.out.keep hb3)
  have b3 := b2.trans (hb3.mono b2.size)
  obtain ⟨lo1, g1, c1, rfl, hform1⟩ := hR3.form
  have HF1 := Lib.hid hform1
  have R3 := Lib.hid hR3
  clear hform1 hR3 hb3 P2 Q2 b2 hsp
  have hl1 := spl_len p mtu
  have hl2 := spl_len q mtu
  have Q3' := Lib.hid (Q3.out.alloc (.cells #[.slice lo1 (spl p mtu).length c1] 25))
  go_wp2_with (refine wpList_load_mid rfl 24 _ rfl (w.heap.size + 1) 0 rfl (pcl q) _ Q3'.out.range HU.out rfl HI.out ?_)
  refine (HS.out q _).mono ?_; rintro e w4 ⟨v2, rfl, hR4, hb4⟩
  have P4 := Lib.hid ((P3.out.alloc (.cells #[.slice lo1 (spl p mtu).length c1] 25)).keep hb4)
  have Q4 := Lib.hid (Q3'.out.keep hb4)
  have z3 := b3.size
  have b4 : Below w.heap.size w w4 := (b3.alloc b3.size _).trans (hb4.mono (by simp; omega))
  have R4 := Lib.hid ((R3.out.on ((Below.refl _ _).alloc (Nat.le_refl _) (.cells #[.slice lo1 (spl p mtu).length c1] 25))).on hb4)
  have A4 : Hid (w4.heap[w3.heap.size]? = some (.cells #[.slice lo1 (spl p mtu).length c1] 25 (0, 0))) := (hb4.block _ (by simp)).trans (heap_alloc_new _ _)
  obtain ⟨lo2, g2, c2, rfl, hform2⟩ := hR4.form
  have S4 := Lib.hid hR4
  have HF2 := Lib.hid hform2
  have z34 : w3.heap.size < w4.heap.size := lt_of_heap A4.out
  have z4 := b4.size
  have zq4 := Q4.out.lt
  clear hb4 hR4 hform2 P3 Q3 Q3' R3 b3
  go_wp2_with fail
  refine (HN.out _).mono ?_; rintro e w5 ⟨rfl, hT5, hb5⟩
  have P6 := Lib.hid ((P4.out.keep hb5).alloc (.cells #[.pointer (some ⟨w4.heap.size + 1, 0, none⟩)] 32))
  have Q6 := Lib.hid ((Q4.out.keep hb5).alloc (.cells #[.pointer (some ⟨w4.heap.size + 1, 0, none⟩)] 32))
  have T6 := Lib.hid (hT5.alloc (.cells #[.pointer (some ⟨w4.heap.size + 1, 0, none⟩)] 32))
  have hb6 : Below w4.heap.size w4 (w5.alloc (.cells #[.pointer (some ⟨w4.heap.size + 1, 0, none⟩)] 32)) := hb5.alloc hb5.size _
  have z5 := hb5.size
  have zt5 := hT5.lt
  have b6 := b4.trans (hb6.mono z4)
  have R6 := Lib.hid (R4.out.on hb6)
  have S6 := Lib.hid (S4.out.on hb6)
  have A6 := Lib.hid ((hb6.block _ z34).trans A4.out)
  have X6 := Lib.hid (heap_alloc_new w5 (.cells #[.pointer (some ⟨w4.heap.size + 1, 0, none⟩)] 32))
  clear P4 Q4 R4 S4 A4 hT5 hb5 hb6 b4
  go_wp2_with fail
  refine (HT1.out _ _).mono ?_; rintro e w7 ⟨rfl, rfl⟩
  generalize (w5.alloc (.cells #[.pointer (some ⟨w4.heap.size + 1, 0, none⟩)] 32)) = W6 at *
  have z6 := b6.size
  have zx : w5.heap.size < W6.heap.size := lt_of_heap X6.out
  by_cases he : sperr p mtu = 0
  · by_cases hf : sperr q mtu = 0
    · obtain ⟨R1, n1, F1⟩ := frm_of he
      obtain ⟨R2, n2, F2⟩ := frm_of hf
      have FR1 := Lib.hid F1
      have FR2 := Lib.hid F2
      rw [he, hf, F1.len, F2.len]
      rw [F1.len] at A6 HF1 hl1
      rw [F2.len] at HF2 hl2
      rw [F1.list] at R6
      rw [F2.list] at S6
      have hp1 := F1.pos
      have hp2 := F2.pos
      have HNE : Hid (nmOf p ≠ nmOf q) := by
        intro hc
        have h2 : 0 ≤ p.id ∧ p.id ≤ 65535 := (chk_zero (F1.chk hp1)).2.2.1
        have h3 : p.id = q.id := congrArg (fun n : Nm => n.2.2.2) hc
        rw [HPe.out, HQe.out] at h3
        rw [HPe.out] at h2
        simp only at h2 h3
        obtain ⟨a, ha⟩ := Int.eq_ofNat_of_zero_le h2.1
        rw [ha] at h3 h2
        exact xor1_ne a (by omega) h3.symm
      clear he hf F1 F2
      obtain ⟨e1, hg1, hg2⟩ := HF1.out hp1
      obtain ⟨e2, hh1, hh2⟩ := HF2.out hp2
      subst e1 e2
      obtain ⟨i0, hi0, hz0, hz1, hz2⟩ := info_parts info24z
      have HCp : Hid (∀ (L : List Pk) (B g cap : Nat) (w : World), PRow w B (.slice (some ⟨g, 0, none⟩) L.length cap) L → 0 < L.length → L.length ≤ 1000000 →
        Calls Try.prog 19 #[.slice (some ⟨g, 0, none⟩) L.length cap] w fun e w' => ∃ g' cap', e = .returned (.slice (some ⟨g', 0, none⟩) L.length cap') ∧ w.heap.size ≤ g' ∧ g' < w'.heap.size ∧ PRow w' w.heap.size (.slice (some ⟨g', 0, none⟩) L.length cap') L ∧ Below w.heap.size w w') := fun L B g cap w h1 h2 h3 => copy_some L B g cap w h1 h2 h3
      have c9 : W6.cell? ⟨w3.heap.size, 0, none⟩ = some (.slice (some ⟨g1, 0, none⟩) n1 c1) := Joins.cell_of_block A6.out 0
      have hpl1 := pks_length p R1 n1
      have hpl2 := pks_length q R2 n2
      have HC := Lib.hid (HCp.out (pks p R1 n1) W2.heap.size g1 c1 W6)
      rw [hpl1] at HC
      have hcl2 := pcells_length (pks q R2 n2)
      rw [hpl2] at hcl2
      have R6' : Hid (PRow W6 W2.heap.size (.slice (some ⟨g1, 0, none⟩) n1 c1) (pks p R1 n1)) := by
        have := R6.out
        rw [hpl1] at this
        exact this
      have S6' := Lib.hid S6.out
      have HPL := Lib.hid hpl1
      have HPL2 := Lib.hid hpl2
      clear HCp hpl1 hpl2
      clear R6 S6 HF1 HF2
      go_wp2_with fail
      refine (HC.out R6'.out hp1 (by omega)).mono ?_; rintro e w7 ⟨g3, c3, rfl, hg3, hl3, hR7, hb7⟩
      have R7 : Hid (w7.ownsRow W6.heap.size 24 9 (.slice (some ⟨g3, 0, none⟩) n1 c3) n1 (pcells (pks p R1 n1))) := by
        have := hR7
        unfold PRow at this
        rw [HPL.out] at this
        exact this
      have hn : Hid (∀ j u, (pcells (pks q R2 n2))[j]? = some u → w7.cell? ((⟨g2, 0, none⟩ : Addr).add j) = some u) := World.ownsRow.cells (S6'.out.on hb7) (g := g2) rfl
      have z7 := hb7.size
      have olt := World.ownsRow.lt R7.out
      have HLE : Hid (∀ (g4 c4 : Nat) (w8 : World), w8.ownsRow W6.heap.size 24 9 (.slice (some ⟨g4, 0, none⟩) (n1 + n2) c4) (n1 + n2) (pcells (pks p R1 n1) ++ pcells (pks q R2 n2)) → PRow w8 W6.heap.size (.slice (some ⟨g4, 0, none⟩) (n1 + n2) c4) (pks p R1 n1 ++ pks q R2 n2)) := fun g4 c4 w8 h => by
        unfold PRow
        rw [List.length_append, HPL.out, HPL2.out, pcells_append]
        exact h
      have hmm := @run_makeMap Try.prog
      have hmf : ∀ (fn : Fn) (first cap : Array Value) (w : World), (Instr.makeFunc fn first cap).run Try.prog w = .ok (.func fn first cap) w := fun _ _ _ _ => rfl
      clear hR7
      go_wp2_with (at_builtin; refine wpList_append_lies _ rfl _ _ _ rfl W6.heap.size 24 i0 _ 9 64 Try.underlying25 hi0 hz0 hz1 hz2 rfl (by omega) (.slice (some ⟨g3, 0, none⟩) n1 c3) n1 (pcells (pks p R1 n1)) rfl R7.out ⟨g2, 0, none⟩ n2 c2 (pcells (pks q R2 n2)) rfl hcl2 hn.out (pcells_one _) hp2 (by unfold maxLen; omega) (by omega) z7 _ rfl ?_; intro g4 c4 w8 own8 hgrow hat hglt; have hb8 : Below W6.heap.size W6 w8 := hb7.grown hgrow z7 (fun j hj => by have := olt j hj; omega); have c9' : (w8.alloc (.cells #[.slice (some ⟨g4, 0, none⟩) (n1 + n2) c4] 25)).cell? ⟨w3.heap.size, 0, none⟩ = some (.slice (some ⟨g1, 0, none⟩) n1 c1) := ((hb8.alloc hb8.size _).cell (p := ⟨w3.heap.size, 0, none⟩) (show w3.heap.size < W6.heap.size by omega)).trans c9)
      obtain ⟨G, hG⟩ : ∃ G : Geo, G = ⟨w.heap.size, w3.heap.size, w.heap.size + 1, w5.heap.size, w8.heap.size, w8.heap.size + 3, w8.heap.size + 1, w4.heap.size + 1, w4.heap.size, g4, c4, w8.heap.size + 2, c1, some ⟨g1, 0, none⟩⟩ := ⟨_, rfl⟩
      have z8 := hb8.size
      have hg4 : W6.heap.size ≤ g4 := by
        rcases hat with hat | hat
        · have := olt g4 hat; omega
        · omega
      obtain ⟨GO, WX0⟩ := wx_start (p := p) (q := q) (R1 := R1) (R2 := R2) (base := w.heap.size) (P6.out.keep hb8) (Q6.out.keep hb8) ((hb8.block _ (show w3.heap.size < W6.heap.size by omega)).trans A6.out) ((hb8.block _ zx).trans X6.out) (T6.out.on hb8) (HLE.out g4 c4 w8 own8) hp1 hp2 hglt z4 (by simp only [List.mem_cons, List.not_mem_nil, or_false, not_or]; omega)
      rw [← hG] at GO WX0
      have HClo : Hid (∀ (k : Nat) (W : World), k < n1 + n2 → WX G p q R1 n1 R2 n2 w.heap.size W → Calls Try.prog 20 #[.int .i64 (k : Int), .pointer (some ⟨w.heap.size, 0, none⟩), .pointer (some ⟨w3.heap.size, 0, none⟩), .pointer (some ⟨w.heap.size + 1, 0, none⟩), .pointer (some ⟨w5.heap.size, 0, none⟩), .pointer (some ⟨w8.heap.size, 0, none⟩), .pointer (some ⟨w8.heap.size + 3, 0, none⟩), .pointer (some ⟨w8.heap.size + 1, 0, none⟩)] W
          fun e W' => e = .returned (.bool true) ∧ WX G p q R1 n1 R2 n2 w.heap.size W' ∧ Below w.heap.size W W') := fun k W hk hX => by
        have := clo_any G p q R1 n1 R2 n2 w.heap.size mtu k W hk (by omega) FR1.out FR2.out HNE.out FP.out FQ.out GO hX
        rw [hG] at this
        rw [hG]
        exact this
      have HAl : Hid (∀ W, WX G p q R1 n1 R2 n2 w.heap.size W → W.cell? ⟨w8.heap.size, 0, none⟩ = some (.slice (some ⟨g4, 0, none⟩) (n1 + n2) c4)) := fun W ⟨J1, J2, A, hA⟩ => by
        have := Joins.cell_of_block hA.fx.al 0
        rw [hG] at this
        exact this
      have b12 : Below w.heap.size w ((((w8.alloc (.cells #[.slice (some ⟨g4, 0, none⟩) (n1 + n2) c4] 25)).alloc (.cells #[.int .i64 (n1 : Int), .int .i64 (n2 : Int)] 58)).alloc (.map #[] 0)).alloc (.cells #[.map (some (w8.heap.size + 2))] 59)) := ((((b6.trans (hb8.mono z6)).alloc (by omega) _).alloc (by simp; omega) _).alloc (by simp; omega) _).alloc (by simp; omega) _
      have WX1 := Lib.hid WX0
      clear hG GO WX0 own8 hgrow hat hglt olt hn R7 HLE R6' S6' HC HNE FR1 FR2 T6 P6 Q6 X6 A6 FP FQ HPe HQe HPL HPL2 HS HN HT1 HU HI hi0 hz0 hz1 hz2 hmm hmf c9 c9' hcl2 hb7 hb8 b6 f0 g0
      go_loopw [85] (fun i W => ∃ m : Nat, m ≤ len ∧ i = .int .i64 m ∧ WX G p q R1 n1 R2 n2 w.heap.size W ∧ Below w.heap.size w W) (fun i _ => len - (intOf i).toNat)
      case atStart => exact ⟨0, Nat.zero_le _, rfl, WX1.out, b12⟩
      case round =>
        obtain ⟨m, hm, rfl, hX, hb⟩ := hrel
        have HX := Lib.hid hX
        have c14 := HAl.out _ hX
        clear hX
        by_cases hlt : m < len
        · obtain ⟨ho, hbb⟩ := HB0.out (by omega)
          subst ho
          obtain ⟨hz1, hz2, hz3⟩ := HZ0.out m hlt
          have hc1 : wr.cell? ⟨b, off + m, none⟩ = some (.int .i64 (Z m)) := by
            rw [hb.cell (p := ⟨b, off + m, none⟩) hbb]; exact hz1
          clear hz1 hbb
          generalize Z m = z at *
          go_wp2_with fail
          refine (HR.out _ _ _ (by omega) (by omega) hz2 hz3).mono ?_; rintro e w9 ⟨rfl, rfl⟩
          obtain ⟨k, hkk⟩ := Int.eq_ofNat_of_zero_le (Int.emod_nonneg z (show (n1 : Int) + (n2 : Int) ≠ 0 by omega))
          have hkn : k < n1 + n2 := by have := Int.emod_lt_of_pos z (show (0 : Int) < (n1 : Int) + (n2 : Int) by omega); omega
          rw [hkk]
          clear hkk
          go_wp2_with fail
          refine (HClo.out k _ hkn HX.out).mono ?_; rintro e w10 ⟨rfl, hX', hb'⟩
          have HX' := Lib.hid hX'
          clear hX'
          go_wp2_with fail
          go_roundw
          case rel => exact ⟨m + 1, by omega, by go_num, HX'.out, hb.trans hb'⟩
          case measure => simp [intOf]; omega
        · have hlt' : ¬ ((m : Int) < (len : Int)) := by omega
          clear HB0 HZ0 HR
          go_wp2_with fail
          go_loopw [99] (fun i W => ∃ k : Nat, k ≤ n1 + n2 ∧ i = .int .i64 k ∧ WX G p q R1 n1 R2 n2 w.heap.size W ∧ Below w.heap.size w W) (fun i _ => n1 + n2 - (intOf i).toNat)
          case atStart => exact ⟨0, Nat.zero_le _, rfl, HX.out, hb⟩
          case round =>
            clear c14 hlt' hlt hm
            obtain ⟨k, hk, rfl, hX1, hb1⟩ := hrel
            have HX1 := Lib.hid hX1
            clear hX1
            by_cases hkn : k < n1 + n2
            · have hki : (k : Int) < (n1 : Int) + (n2 : Int) := by omega
              go_wp2_with fail
              refine (HClo.out k _ hkn HX1.out).mono ?_; rintro e w10 ⟨rfl, hX', hb'⟩
              have HX' := Lib.hid hX'
              clear hX'
              go_wp2_with fail
              go_roundw
              case rel => exact ⟨k + 1, by omega, by go_num, HX'.out, hb1.trans hb'⟩
              case measure => simp [intOf]; omega
            · have hki : ¬ ((k : Int) < (n1 : Int) + (n2 : Int)) := by omega
              go_wp2_with fail
              go_ret
              exact ⟨rfl, hb1⟩
    · have hsl : (spl q mtu).length = 0 := by rw [spl_bad hf]; rfl
      obtain ⟨R1, n1, F1⟩ := frm_of he
      have hp1 := F1.pos
      rw [he, hsl, F1.len]
      rw [F1.len] at A6
      have c9 := Joins.cell_of_block A6.out 0
      clear F1
      generalize sperr q mtu = E at *
      have hne : (E != 0) = true := by simpa using hf
      have hne2 : (E == 0) = false := by simpa using hf
      have hn0 : ((n1 : Int) == 0) = false := by rw [beq_eq_false_iff_ne]; omega
      clear he hf
      go_wp2_with fail
      go_ret
      exact ⟨rfl, b6⟩
  · have hsl : (spl p mtu).length = 0 := by rw [spl_bad he]; rfl
    rw [hsl]
    rw [hsl] at A6
    have c9 := Joins.cell_of_block A6.out 0
    generalize sperr p mtu = E at *
    have hne : (E != 0) = true := by simpa using he
    have hne2 : (E == 0) = false := by simpa using he
    clear he
    go_wp2_with fail
    go_ret
    exact ⟨rfl, b6⟩
end Go.Proofs.Ytfnmcnbiahfnfaa
