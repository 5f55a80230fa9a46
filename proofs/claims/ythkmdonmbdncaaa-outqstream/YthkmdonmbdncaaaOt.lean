/-
  The walk of OutqStream.
-/
import Derived.Test.YthkmdonmbdncaaaSc
import Derived.Deep.CutBlock
namespace Go.Proofs.Ythkmdonmbdncaaa
open Go.RowKit
set_option linter.unusedVariables false
set_option linter.unusedSimpArgs false

set_option maxHeartbeats 16000000 in
set_option maxRecDepth 100000 in
theorem stream_walk (o : Option Addr) (b off len cap : Nat) (C : Nat → List Value) (S : Nat → Stp) (w : World) (hb : 0 < len → o = some ⟨b, off, none⟩ ∧ b < w.heap.size) (hS : StepsAt w b off len C S) (hlen : len * 256 ≤ 140737488355328) :
    Calls Try.prog 4 #[.slice o len cap] w fun e w' => e = .returned (.bool true) ∧ Below w.heap.size w w' := by
  have HN : Hid (∀ w', Calls Try.prog 6 #[] w' fun e w'' => e = .returned (.pointer (some ⟨w'.heap.size, 0, none⟩)) ∧ QR w'.heap.size w'.heap.size (.slice none 0 0) ⟨#[]⟩ 1 false 0 0 0 w'' ∧ Below w'.heap.size w' w'') := new_any
  have HS0 := Lib.hid hS
  have HB0 := Lib.hid hb
  clear hb hS
  go_enter Try.func4, Try.ntmps4
  go_wp2_with fail
  refine (HN.out _).mono ?_; rintro e w1 ⟨rfl, hT1, hb1⟩
  have L2 : Hid (Own w w1 w.heap.size (.slice none 0 0) st0) := by
    have e1 : kept st0 = ⟨#[]⟩ := ext_none _ _
    have hq : OT w.heap.size (.slice none 0 0) st0 w1 := by
      show QR _ _ _ (kept st0) (lst st0) _ _ _ _ _
      rw [e1]; exact hT1
    exact ⟨hq, st0_ok, hb1, Nat.le_refl _⟩
  clear hT1 hb1
  go_wp2_with fail
  go_loopw [4, 5, 6, 21] (fun a sb sn i W => ∃ (k : Nat) (v : Value) (t : St), k ≤ len ∧ i = .int .i64 k ∧ a = .string t.A ∧ sb = .bool t.sh ∧ sn = .int .i64 t.s ∧ t.A.size ≤ 2048 * k ∧ Own w W w.heap.size v t) (fun _ _ _ i _ => len - (intOf i).toNat)
  case atStart => exact ⟨0, _, st0, Nat.zero_le _, rfl, rfl, rfl, rfl, by decide, L2.out⟩
  case round =>
    obtain ⟨k, v, t, hk, rfl, rfl, rfl, rfl, hA, hO⟩ := hrel
    have L := Lib.hid hO
    clear hO L2
    by_cases hlt : k < len
    · obtain ⟨ho, hbb⟩ := HB0.out (by omega)
      subst ho
      obtain ⟨hr', hcs⟩ := HS0.out k hlt
      have F := Lib.hid (step_f HS0.out hlt hbb L.out.be)
      have HOf : Hid (∀ w', Calls Try.prog 7 #[.agg (C k).toArray, .int .i64 6] w' fun e w'' => e = .returned (.int .i64 ((S k).kind % 6)) ∧ Below w'.heap.size w' w'') := fun w' => of_any (C k) (S k) 6 w' hcs (by omega) (by omega)
      have HC1 : Hid (∀ g W, SB g (C k) W → W.cell? ⟨g, 1, none⟩ = some (.int .i64 (S k).num) ∧ W.cell? ⟨g, 2, none⟩ = some (.int .i64 (S k).num2) ∧ W.cell? ⟨g, 4, none⟩ = some (.string (S k).txt)) := fun g W h => ⟨h.c1 hcs, h.c2 hcs, h.c4 hcs⟩
      have L4 := Lib.hid (L.out.alloc (.cells (C k).toArray 42))
      have B4 := Lib.hid F.out.blk
      have hkd0 := Int.emod_nonneg (S k).kind (show (6 : Int) ≠ 0 by omega)
      have hkd1 := Int.emod_lt_of_pos (S k).kind (show (0 : Int) < 6 by omega)
      have hn1 := hcs.n1
      have hn2 := hcs.n2
      have hp1 := hcs.p1
      have hp2 := hcs.p2
      have hxz := hcs.z
      have hA1 : t.A.size ≤ 4503599627370000 := by omega
      have hA2 : t.A.size ≤ 4503599627370496 := by omega
      clear hcs hr' hbb L
      generalize C k = cs at *
      generalize (S k).num = num at *
      generalize (S k).num2 = mss at *
      generalize (S k).txt = x at *
      generalize (S k).kind % 6 = kd at *
      go_upto_block 2 with (first | (refine wpList_load_mid rfl 42 _ rfl b (off + k * 45) rfl cs _ F.out.rr Try.underlying42 rfl F.out.hi ?_) | (refine wpList_store_last rfl 42 _ _ rfl wr _ cs.toArray rfl rfl rfl F.out.hi' F.out.h45 F.out.one ?_) | (refine wpList_load_mid rfl 42 _ rfl wr.heap.size 0 rfl cs _ B4.out.range Try.underlying42 rfl F.out.hi ?_) | (go_at_call 7; refine (HOf.out _).mono ?_; rintro e w5 ⟨rfl, hb5⟩))
      have L5 := Lib.hid (L4.out.on hb5)
      have B5 := Lib.hid (B4.out.keep hb5)
      clear L4 B4 hb5 F HOf
      generalize wr.heap.size = bx at *
      refine arm_any L5.out B5.out HC1.out hn1 hn2 hp1 hp2 hxz hA hA1 ?_ ?_
      case refine_1 =>
        intro wc v6 t6 z4 z5 z6 z9 z10 z11 z12 z13 z14 z15 z27 z28 z29 z30 z31 z32 z33 z34 z35 z36 z37 z38 z39 z40 z41 z42 z43 z44 z45 z46 z47 z48 z49 z50 z51 z52 z53 z54 z55 z56 z57 z58 z59 z60 z61 z62 z63 z64 z65 z66 z67 z68 z69 z70 z71 z72 z73 z74 z75 z76 z77 z78 z79 z80 z81 z82 z83 z84 z85 z86 z87 z88 z89 z90 z91 z92 z93 z94 z95 z96 z97 z98 z99 z100 z101 z102 z103 z104 z105 z106 z107 z108 z109 z110 z111 z112 z113 z114 z115 z116 z117 z118 z119 z120 z121 z122 z123 z124 z125 z126 z127 z128 z129 z130 z131 z132 z133 z134 z135 z136 z137 z138 z139 z140 z141 z142 z143 z144 z145 z146 z147 z148 z149 z150 z151 z152 z153 z154 z155 z156 z157 z158 z159 z160 z161 z162 z163 z164 z165 z166 z167 z168 z169 z170 z171 z172 z173 z174 z175 z176 z177 z178 z179 z180 z181 z182 z183 z184 z185 z186 z187 z188 z189 z190 z191 z192 z193 z194 z195 z196 z197 z198 z199 z200 z201 z202 z203 z204 z205 z206 z207 z208 z209 z210 z211 z212 z213 z214 z215 z216 z217 z218 z219 z220 z221 z222 z223 z224 z225 z226 z227 z228 z229 z230 z231 z232 z233 hz4 hz5 hz6 hA6 hL6
        subst hz4 hz5 hz6
        dsimp only
        have L6 := Lib.hid hL6
        clear hL6 L5 B5 HC1 hA hA1 hA2
        have hA2 : t6.A.size ≤ 4503599627370496 := by omega
        obtain ⟨u3, u4, u5, u6, u9, u8⟩ := bnd6 L6.out.ok hA2
        have r0 : 0 ≤ rmI t6 := by unfold rmI; omega
        have r1 : rmI t6 ≤ 2048 := by have := rm_le (kept t6) t6.sh; unfold rmI; omega
        have H20 := Lib.hid (q_sent L6.out.own)
        have H18 := Lib.hid (q_una L6.out.own)
        have H19 := Lib.hid (q_cur L6.out.own)
        have H21 := Lib.hid (q_end L6.out.own hA2)
        have H23 := Lib.hid (q_room L6.out.own L6.out.ok)
        go_wp2_with fail
        refine H20.out.mono ?_; rintro e wa ⟨rfl, rfl⟩
        go_wp2_with fail
        refine H18.out.mono ?_; rintro e wa ⟨rfl, rfl⟩
        go_wp2_with fail
        refine H19.out.mono ?_; rintro e wa ⟨rfl, rfl⟩
        go_wp2_with fail
        refine H19.out.mono ?_; rintro e wa ⟨rfl, rfl⟩
        go_wp2_with fail
        refine H21.out.mono ?_; rintro e wa ⟨rfl, rfl⟩
        go_wp2_with fail
        refine H23.out.mono ?_; rintro e wa ⟨rfl, rfl⟩
        go_wp2_with fail
        refine H23.out.mono ?_; rintro e wa ⟨rfl, rfl⟩
        go_wp2_with fail
        go_roundw
        case rel => exact ⟨k + 1, _, t6, by omega, by go_num, rfl, rfl, rfl, hA6, L6.out⟩
        case measure => simp [intOf]; omega
      case refine_2 =>
        intro wc z9 z10 z11 z12 z13 z14 z15 z27 z28 z29 z30 z31 z32 z33 z34 z35 z36 z37 z38 z39 z40 z41 z42 z43 z44 z45 z46 z47 z48 z49 z50 z51 z52 z53 z54 z55 z56 z57 z58 z59 z60 z61 z62 z63 z64 z65 z66 z67 z68 z69 z70 z71 z72 z73 z74 z75 z76 z77 z78 z79 z80 z81 z82 z83 z84 z85 z86 z87 z88 z89 z90 z91 z92 z93 z94 z95 z96 z97 z98 z99 z100 z101 z102 z103 z104 z105 z106 z107 z108 z109 z110 z111 z112 z113 z114 z115 z116 z117 z118 z119 z120 z121 z122 z123 z124 z125 z126 z127 z128 z129 z130 z131 z132 z133 z134 z135 z136 z137 z138 z139 z140 z141 z142 z143 z144 z145 z146 z147 z148 z149 z150 z151 z152 z153 z154 z155 z156 z157 z158 z159 z160 z161 z162 z163 z164 z165 z166 z167 z168 z169 z170 z171 z172 z173 z174 z175 z176 z177 z178 z179 z180 z181 z182 z183 z184 z185 z186 z187 z188 z189 z190 z191 z192 z193 z194 z195 z196 z197 z198 z199 z200 z201 z202 z203 z204 z205 z206 z207 z208 z209 z210 z211 z212 z213 z214 z215 z216 z217 z218 z219 z220 z221 z222 z223 z224 z225 z226 z227 z228 z229 z230 z231 z232 z233 hL6
        dsimp only
        have L6 := Lib.hid hL6
        clear hL6 L5 B5 HC1 hA1 hA2
        go_wp2_with fail
        go_roundw
        case rel => exact ⟨k + 1, _, t, by omega, by go_num, rfl, rfl, rfl, by omega, L6.out⟩
        case measure => simp [intOf]; omega
    · have hlt' : ¬ ((k : Int) < (len : Int)) := by omega
      have hA2 : t.A.size ≤ 4503599627370496 := by omega
      have he : 1 ≤ enI t := by have := (en_le (lst t) t.sh).1; unfold enI lst at *; omega
      go_wp2_with fail
      refine (q_end L.out.own hA2).mono ?_; rintro e w2 ⟨rfl, rfl⟩
      go_wp2_with fail
      go_ret
      exact ⟨ret_bool (by first | rfl | (simp; done) | (simp; omega)), L.out.be⟩
end Go.Proofs.Ythkmdonmbdncaaa
