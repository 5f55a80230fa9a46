/-
  RouteSays, walked: whatever steps and addresses: the program's table and the document's answer alike.
-/
import Derived.Test.YtchmfbfijglokaaTwo
import Derived.Test.YtchmfbfijglokaaRefD
import Derived.Deep.RegionHeld3
namespace Go.Proofs.Ytchmfbfijglokaa
open Go.RowKit
set_option linter.unusedVariables false

/-- What is said of the document's Add. -/
def AddSaid : Prop := ∀ (rb g cap : Nat) (o : Option Addr) (L : List Ent) (pa : Nat) (pb via : Int) (w : World), pa < 4294967296 → RT w rb o g cap L → Good L →
    Calls Try.prog 12 #[.pointer (some ⟨rb, 0, none⟩), .agg #[.int .u32 pa, .int .i64 pb], .int .i64 via] w fun e w' => e = .returned (.int .i64 (addC L pa pb)) ∧ ∃ (o' : Option Addr) (g' cap' : Nat), RT w' rb o' g' cap' (addL L pa pb via) ∧ (g' = g ∨ w.heap.size ≤ g') ∧ Kp [rb] w w'

set_option maxHeartbeats 16000000 in
set_option maxRecDepth 100000 in
theorem says_walk (hadd : AddSaid) (o : Option Addr) (b off len cap : Nat) (C : Nat → List Value) (S : Nat → Stp) (p : Option Addr) (d poff plen pcap : Nat) (Z : Nat → Nat) (w : World)
    (hb : 0 < len → o = some ⟨b, off, none⟩ ∧ b < w.heap.size) (hS : StepsAt w b off len C S) (hlen : len ≤ maxLen)
    (hd : 0 < plen → p = some ⟨d, poff, none⟩ ∧ d < w.heap.size) (hZ : ∀ i, i < plen → w.cell? ⟨d, poff + i, none⟩ = some (.int .u32 (Z i : Int)) ∧ Z i < 4294967296) (hplen : plen ≤ maxLen) :
    Calls Try.prog 3 #[.slice o len cap, .slice p plen pcap] w fun e w' => e = .returned (.bool true) ∧ Below w.heap.size w w' := by
  unfold maxLen at hlen hplen
  have HADD := Lib.hid hadd
  have HB0 := Lib.hid hb
  have HS0 := Lib.hid hS
  have HD0 := Lib.hid hd
  have HZ0 := Lib.hid hZ
  have HA33 : Hid (∀ (tb : Nat) (bs : List Nat) (L : List Ent) (w' : World), Tbl w' tb bs L → Calls Try.prog 10 #[.pointer (some ⟨tb, 0, none⟩), .agg #[.int .u32 0, .int .i64 33], .int .i64 0] w' fun e w'' => e = .returned (.int .i64 1) ∧ ∃ bs', Tbl w'' tb bs' L ∧ Kp bs w' w'' ∧ ∀ k ∈ bs', k ∈ bs ∨ w'.heap.size ≤ k) := fun tb bs L w' h => by
    have := add_any tb bs L 0 33 0 w' (by omega) h
    have e1 : addC L 0 33 = 1 := by unfold addC chk; simp
    have e2 : addL L 0 33 0 = L := by unfold addL; rw [e1]; simp
    rwa [e1, e2] at this
  clear hadd hb hS hd hZ
  go_enter Try.func3, Try.ntmps3
  go_wp2_with fail
  refine (new_any _).mono ?_; rintro e w1 ⟨rfl, hT1, h01⟩
  have hba : Below w1.heap.size w1 (w1.alloc (.cells #[.slice none 0 0] 29)) := (Below.refl _ _).alloc (Nat.le_refl _) _
  have T1 := Lib.hid (hT1.on hba)
  have TL := Lib.hid hT1.lt
  clear hT1
  go_wp2_with fail
  refine (HA33.out _ _ _ _ T1.out).mono ?_; rintro e w2 ⟨rfl, bs2, hT2, hk2, hs2⟩
  have D2 : Hid (Two w w2 w.heap.size w1.heap.size bs2 none w1.heap.size 0 []) := by
    have hl : w.heap.size < w1.heap.size := TL.out _ (by simp)
    have hr2 : w2.heap[w1.heap.size]? = some (.cells #[.slice none 0 0] 29 (0, 0)) := by
      rw [hk2.block _ (by simp) (by simp; omega)]; exact heap_alloc_new _ _
    have hn : w1.heap.size ∉ bs2 := fun hm => by
      rcases hs2 _ hm with h | h
      · simp at h; omega
      · simp at h; omega
    refine ⟨hT2, ⟨hr2, (fun hp => by simp at hp), (fun hp => by simp at hp), Nat.le_refl _, fun _ => rfl⟩, hn, hn, lt_of_block hr2, ?_, fun j hj => ?_, h01.size⟩
    · have h1 := h01.trans (hba.mono h01.size)
      exact h1.trans (hk2.below h1.size (by simp))
    · rcases hs2 j hj with h | h
      · simp at h; omega
      · have := h01.size; simp at h; omega
  clear hT2
  go_wp2_with fail
  go_loopw [31] (fun i W => ∃ (k : Nat) (bs : List Nat) (o1 : Option Addr) (g cap1 : Nat) (L : List Ent), k ≤ len ∧ i = .int .i64 k ∧ Two w W w.heap.size w1.heap.size bs o1 g cap1 L) (fun i _ => len - (intOf i).toNat)
  case atStart => exact ⟨0, bs2, none, w1.heap.size, 0, [], Nat.zero_le _, rfl, D2.out⟩
  case round =>
    obtain ⟨k, bs, o1, g, cap1, L, hk, rfl, hD⟩ := hrel
    have D := Lib.hid hD
    clear hD
    by_cases hlt : k < len
    · obtain ⟨ho, hb⟩ := HB0.out (by omega)
      subst ho
      obtain ⟨hr, hcs⟩ := HS0.out k hlt
      have hbel := D.out.be
      have hsz := hbel.size
      have hr' : wr.rangeAt b (off + k * 45) (C k) := fun j v hv => by
        rw [hbel.cell (p := ⟨b, off + k * 45 + j, none⟩) hb]; exact hr j v hv
      have hi46 : (Try.prog.info? 46).map (·.size) = some (C k).length := by rw [hcs.len]; exact info46
      have h45 : 45 = (C k).toArray.size := by simp [hcs.len]
      have hi46' : (Try.prog.info? 46).map (·.size) = some (C k).toArray.size := by rw [← h45]; exact info46
      have hone := all_oneCell_toArray hcs.one
      generalize C k = cs at *
      generalize S k = s at *
      have HC := Lib.hid hcs
      have HR := Lib.hid hr'
      have HI := Lib.hid hi46
      have HI' := Lib.hid hi46'
      have H45 := Lib.hid h45
      have H1 := Lib.hid hone
      have HO : Hid (∀ w', Calls Try.prog 11 #[.agg cs.toArray, .int .i64 3] w' fun e w'' => e = .returned (.int .i64 (restV s.kind 3)) ∧ Below w'.heap.size w' w'') := fun w' => of_any cs.toArray s.kind 3 w' h45.symm (by simpa using hcs.c0) (by omega) (by omega) hcs.k1 hcs.k2
      have PA := Lib.hid hcs.pa
      clear hcs hr hr' hi46 hi46' hone h45
      go_wp2_with (first | (refine wpList_load_mid rfl 46 _ rfl b (off + k * 45) rfl cs _ HR.out Try.underlying46 rfl HI.out ?_) | (refine wpList_store_last rfl 46 _ _ rfl wr _ cs.toArray rfl rfl rfl HI'.out H45.out H1.out ?_) | (refine wpList_load_mid rfl 46 _ rfl wr.heap.size 0 rfl cs _ (range_last wr cs 46) Try.underlying46 rfl HI.out ?_))
      refine (HO.out _).mono ?_; rintro e w3 ⟨rfl, hb3⟩
      have bx := box_keep hb3
      have x1 : w3.cell? ⟨wr.heap.size, 1, none⟩ = some (.int .i64 s.num) := by rw [Joins.cell_of_block bx]; simpa using HC.out.c1
      have x5 : w3.cell? ⟨wr.heap.size, 5, none⟩ = some (.int .u32 (s.pa : Int)) := by rw [Joins.cell_of_block bx]; simpa using HC.out.c5
      have x6 : w3.cell? ⟨wr.heap.size, 6, none⟩ = some (.int .i64 s.pb) := by rw [Joins.cell_of_block bx]; simpa using HC.out.c6
      have h13 : Below wr.heap.size wr w3 := ((Below.refl _ _).alloc (Nat.le_refl _) _).trans (hb3.mono (by simp))
      have TD : Hid (Two w w3.drew w.heap.size w1.heap.size bs o1 g cap1 L) := D.out.on h13.drew
      have hxl : wr.heap.size < w3.heap.size := lt_of_block bx
      have kc : Hid (∀ (w4 : World) (i : Nat) (v : Value), Kp bs w3.drew w4 → w3.cell? ⟨wr.heap.size, i, none⟩ = some v → w4.cell? ⟨wr.heap.size, i, none⟩ = some v) := fun w4 i v hk hc => by
        rw [World.cell?_of_block (w := w3.drew) (a := ⟨wr.heap.size, i, none⟩) (hk.block _ hxl (fun hm => absurd (D.out.t.lt _ hm) (Nat.lt_irrefl _)))]; exact hc
      have wxl : ∀ {w4 : World}, Kp bs w3.drew w4 → wr.heap.size < w4.heap.size := fun hk => Nat.lt_of_lt_of_le hxl hk.size
      have k5 : Hid (∀ {w4 : World} (w5 : World) (i : Nat) (v : Value), Kp [w1.heap.size] w4 w5 → w4.cell? ⟨wr.heap.size, i, none⟩ = some v → wr.heap.size < w4.heap.size → w5.cell? ⟨wr.heap.size, i, none⟩ = some v) := fun w5 i v hk hc hl => by
        rw [World.cell?_of_block (a := ⟨wr.heap.size, i, none⟩) (hk.block _ hl (by have := D.out.u.lt; simp; omega))]; exact hc
      clear bx hb3
      generalize restV s.kind 3 = R at *
      by_cases hR : 0 < R
      · have hRd : decide ((0 : Int) < R) = true := by simpa using hR
        have HA : Hid (∀ bs' w', Tbl w' w.heap.size bs' L → Calls Try.prog 10 #[.pointer (some ⟨w.heap.size, 0, none⟩), .agg #[.int .u32 s.pa, .int .i64 s.pb], .int .i64 s.num] w' fun e w'' => e = .returned (.int .i64 (addC L s.pa s.pb)) ∧ ∃ bs'', Tbl w'' w.heap.size bs'' (addL L s.pa s.pb s.num) ∧ Kp bs' w' w'' ∧ ∀ k ∈ bs'', k ∈ bs' ∨ w'.heap.size ≤ k) := fun bs' w' h => add_any w.heap.size bs' L s.pa s.pb s.num w' PA.out h
        have HU : Hid (∀ o' g' cap' w', RT w' w1.heap.size o' g' cap' L → Good L → Calls Try.prog 12 #[.pointer (some ⟨w1.heap.size, 0, none⟩), .agg #[.int .u32 s.pa, .int .i64 s.pb], .int .i64 s.num] w' fun e w'' => e = .returned (.int .i64 (addC L s.pa s.pb)) ∧ ∃ (o'' : Option Addr) (g'' cap'' : Nat), RT w'' w1.heap.size o'' g'' cap'' (addL L s.pa s.pb s.num) ∧ (g'' = g' ∨ w'.heap.size ≤ g'') ∧ Kp [w1.heap.size] w' w'') := fun o' g' cap' w' h hG => HADD.out w1.heap.size g' cap' o' L s.pa s.pb s.num w' PA.out h hG
        generalize addC L s.pa s.pb = cc at *
        generalize addL L s.pa s.pb s.num = L' at *
        go_wp2_with fail
        go_region_held3 (fun w' => w'.cell? ⟨wr.heap.size, 5, none⟩ = some (.int .u32 (s.pa : Int)) ∧ w'.cell? ⟨wr.heap.size, 6, none⟩ = some (.int .i64 s.pb) ∧ w'.cell? ⟨wr.heap.size, 1, none⟩ = some (.int .i64 s.num)) (go_keep) (first
          | (go_at_call 10; refine (HA.out _ _ TD.out.t).mono ?_; rintro e w4 ⟨rfl, bs4, hT4, hk4, hs4⟩; have M4 := Lib.hid (TD.out.mid hk4); have T4 := Lib.hid hT4; clear hT4; have f5 := (kc.out _ _ _ hk4 x5); have f6 := (kc.out _ _ _ hk4 x6); have f1 := (kc.out _ _ _ hk4 x1))
          | (go_at_call 12; refine (HU.out _ _ _ _ M4.out TD.out.t.good).mono ?_; rintro e w5 ⟨rfl, o5, g5, cap5, hR5, hg5, hk5⟩; have R5 := Lib.hid hR5; clear hR5; have i5 := (k5.out _ _ _ hk5 f5 (wxl hk4)); have i6 := (k5.out _ _ _ hk5 f6 (wxl hk4)); have i1 := (k5.out _ _ _ hk5 f1 (wxl hk4))))
        all_goals
          obtain ⟨g6, D6⟩ := TD.out.both hk4 T4.out hs4 R5.out hg5 hk5
          have D := Lib.hid D6
          have l64 := D6.t.good.many
          clear D6 f5 f6 f1 i5 i6 i1
          go_wp2_with fail
          refine (tall_full _ _ _ _ D.out.t).mono ?_; rintro e w6 ⟨lo, lg, lc, rfl, hL6, hg6, hb6⟩
          have LA := Lib.hid hL6
          have D6 := Lib.hid (D.out.on hb6)
          clear hL6
          go_wp2_with fail
          refine (rall_any w1.heap.size _ _ _ L' _ D6.out.u l64).mono ?_; rintro e w7 ⟨mo, mg, mc, rfl, hL7, hg7, hb7⟩
          have HE := Lib.hid (eq_any lo mo lg mg lc mc L'.length L' L' w7 (LA.out.keep hb7.size fun h => hb7.block _ h) hL7 (KEq.refl L') rfl l64)
          have D7 := Lib.hid (D6.out.on hb7)
          clear hL7
          go_wp2_with fail
          refine HE.out.mono ?_; rintro e w8 ⟨rfl, hb8⟩
          have D8 := Lib.hid (D7.out.on hb8)
          go_wp2_with fail
          go_roundw
          case rel => exact ⟨k + 1, bs4, o5, g6, cap5, L', by omega, by go_num, D8.out⟩
          case measure => simp [intOf]; omega
      · have hRd : decide ((0 : Int) < R) = false := by simpa using hR
        have HA : Hid (∀ bs' w', Tbl w' w.heap.size bs' L → Calls Try.prog 13 #[.pointer (some ⟨w.heap.size, 0, none⟩), .agg #[.int .u32 s.pa, .int .i64 s.pb]] w' fun e w'' => e = .returned (.int .i64 (dropC L s.pa s.pb)) ∧ ∃ bs'', Tbl w'' w.heap.size bs'' (dropL L s.pa s.pb) ∧ Kp bs' w' w'' ∧ ∀ k ∈ bs'', k ∈ bs' ∨ w'.heap.size ≤ k) := fun bs' w' h => drop_any w.heap.size bs' L s.pa s.pb w' PA.out h
        have HU : Hid (∀ o' g' cap' w', RT w' w1.heap.size o' g' cap' L → Good L → Calls Try.prog 14 #[.pointer (some ⟨w1.heap.size, 0, none⟩), .agg #[.int .u32 s.pa, .int .i64 s.pb]] w' fun e w'' => e = .returned (.int .i64 (dropC L s.pa s.pb)) ∧ ∃ (o'' : Option Addr) (g'' cap'' : Nat), RT w'' w1.heap.size o'' g'' cap'' (dropL L s.pa s.pb) ∧ (g'' = g' ∨ w'.heap.size ≤ g'') ∧ Kp [w1.heap.size] w' w'') := fun o' g' cap' w' h hG => rdrop_any w1.heap.size g' cap' o' L s.pa s.pb w' PA.out h hG
        generalize dropC L s.pa s.pb = cc at *
        generalize dropL L s.pa s.pb = L' at *
        go_wp2_with fail
        go_region_held3 (fun w' => w'.cell? ⟨wr.heap.size, 5, none⟩ = some (.int .u32 (s.pa : Int)) ∧ w'.cell? ⟨wr.heap.size, 6, none⟩ = some (.int .i64 s.pb)) (go_keep) (first
          | (go_at_call 13; refine (HA.out _ _ TD.out.t).mono ?_; rintro e w4 ⟨rfl, bs4, hT4, hk4, hs4⟩; have M4 := Lib.hid (TD.out.mid hk4); have T4 := Lib.hid hT4; clear hT4; have f5 := (kc.out _ _ _ hk4 x5); have f6 := (kc.out _ _ _ hk4 x6); have f1 := (kc.out _ _ _ hk4 x1))
          | (go_at_call 14; refine (HU.out _ _ _ _ M4.out TD.out.t.good).mono ?_; rintro e w5 ⟨rfl, o5, g5, cap5, hR5, hg5, hk5⟩; have R5 := Lib.hid hR5; clear hR5; have i5 := (k5.out _ _ _ hk5 f5 (wxl hk4)); have i6 := (k5.out _ _ _ hk5 f6 (wxl hk4)); have i1 := (k5.out _ _ _ hk5 f1 (wxl hk4))))
        all_goals
          obtain ⟨g6, D6⟩ := TD.out.both hk4 T4.out hs4 R5.out hg5 hk5
          have D := Lib.hid D6
          have l64 := D6.t.good.many
          clear D6 f5 f6 f1 i5 i6 i1
          go_wp2_with fail
          refine (tall_full _ _ _ _ D.out.t).mono ?_; rintro e w6 ⟨lo, lg, lc, rfl, hL6, hg6, hb6⟩
          have LA := Lib.hid hL6
          have D6 := Lib.hid (D.out.on hb6)
          clear hL6
          go_wp2_with fail
          refine (rall_any w1.heap.size _ _ _ L' _ D6.out.u l64).mono ?_; rintro e w7 ⟨mo, mg, mc, rfl, hL7, hg7, hb7⟩
          have HE := Lib.hid (eq_any lo mo lg mg lc mc L'.length L' L' w7 (LA.out.keep hb7.size fun h => hb7.block _ h) hL7 (KEq.refl L') rfl l64)
          have D7 := Lib.hid (D6.out.on hb7)
          clear hL7
          go_wp2_with fail
          refine HE.out.mono ?_; rintro e w8 ⟨rfl, hb8⟩
          have D8 := Lib.hid (D7.out.on hb8)
          go_wp2_with fail
          go_roundw
          case rel => exact ⟨k + 1, bs4, o5, g6, cap5, L', by omega, by go_num, D8.out⟩
          case measure => simp [intOf]; omega
    · have hlen2 : ¬ ((k : Int) < (len : Int)) := by omega
      go_wp2_with fail
      go_loopw [73] (fun i W => ∃ (m : Nat), m ≤ plen ∧ i = .int .i64 m ∧ Two w W w.heap.size w1.heap.size bs o1 g cap1 L) (fun i _ => plen - (intOf i).toNat)
      case atStart => exact ⟨0, Nat.zero_le _, rfl, D.out⟩
      case round =>
        obtain ⟨m, hm, rfl, hD2⟩ := hrel
        have E := Lib.hid hD2
        clear hD2
        by_cases hlt2 : m < plen
        · obtain ⟨ho, hd⟩ := HD0.out (by omega)
          subst ho
          obtain ⟨hz1, hz2⟩ := HZ0.out m hlt2
          have hz3 := (E.out.be.cell (p := ⟨d, poff + m, none⟩) hd).trans hz1
          have HF := Lib.hid (find_any w.heap.size (Z m) bs L wr hz2 E.out.t)
          have HG : Hid (∀ w', RT w' w1.heap.size o1 g cap1 L → Calls Try.prog 19 #[.pointer (some ⟨w1.heap.size, 0, none⟩), .int .u32 (Z m)] w' fun e w'' => e = .returned (.tuple #[.int .i64 (fV (findF (Z m) none L)), .agg #[.int .u32 (fA (findF (Z m) none L) : Nat), .int .i64 (fB (findF (Z m) none L) : Nat)], .bool (findF (Z m) none L).isSome]) ∧ Below w'.heap.size w' w'') := fun w' h => rfind_any w1.heap.size g cap1 (Z m) o1 L w' h E.out.t.good hz2
          generalize findF (Z m) none L = Rf at *
          generalize fV Rf = V at *
          generalize fA Rf = A at *
          generalize fB Rf = Bq at *
          generalize Rf.isSome = I at *
          generalize Z m = z at *
          clear hz1
          go_wp2_with fail
          refine HF.out.mono ?_; rintro e w4 ⟨rfl, hb4⟩
          have hba4 : Below wr.heap.size wr (w4.alloc (.cells #[.int .u32 (A : Int), .int .i64 (Bq : Int)] 34)) := hb4.alloc hb4.size _
          go_wp2_with fail
          refine (HG.out _ (E.out.u.on hba4)).mono ?_; rintro e w5 ⟨rfl, hb5⟩
          obtain ⟨q0, q1, _, _⟩ := two_cells (box_keep hb5)
          have hz5 : w4.heap.size < w5.heap.size := lt_of_block (box_keep hb5)
          have h45 : Below wr.heap.size wr (w5.alloc (.cells #[.int .u32 (A : Int), .int .i64 (Bq : Int)] 34)) := (hba4.trans (hb5.mono hba4.size)).alloc (Nat.le_trans hba4.size hb5.size) _
          have E5 := Lib.hid (E.out.on h45)
          go_wp2_with fail
          go_roundw
          case rel => exact ⟨m + 1, by omega, by go_num, E5.out⟩
          case measure => simp [intOf]; omega
        · go_wp2_with fail
          go_ret
          exact ⟨rfl, E.out.be⟩
end Go.Proofs.Ytchmfbfijglokaa
