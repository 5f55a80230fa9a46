/-
  One step of OutqStream: bytes go out, or FIN; all steps in one.
-/
import Derived.Test.YthkmdonmbdncaaaSb
namespace Go.Proofs.Ythkmdonmbdncaaa
open Go.RowKit
set_option linter.unusedVariables false
set_option linter.unusedSimpArgs false

set_option maxHeartbeats 8000000 in
set_option maxRecDepth 1000000 in
theorem arm6 {w w5 : World} {b off len cap bx k : Nat} {v : Value} {t : St} {cs : List Value} {num mss : Int} {x : ByteArray} {kd : Int} {u2 u9 u10 u11 u12 u13 u14 u15 u27 u28 u29 u30 u31 u32 u33 u34 u35 u36 u37 u38 u39 u40 u41 u42 u43 u44 u45 u46 u47 u48 u49 u50 u51 u52 u53 u54 u55 u56 u57 u58 u59 u60 u61 u62 u63 u64 u65 u66 u67 u68 u69 u70 u71 u72 u73 u74 u75 u76 u77 u78 u79 u80 u81 u82 u83 u84 u85 u86 u87 u88 u89 u90 u91 u92 u93 u94 u95 u96 u97 u98 u99 u100 u101 u102 u103 u104 u105 u106 u107 u108 u109 u110 u111 u112 u113 u114 u115 u116 u117 u118 u119 u120 u121 u122 u123 u124 u125 u126 u127 u128 u129 u130 u131 u132 u133 u134 u135 u136 u137 u138 u139 u140 u141 u142 u143 u144 u145 u146 u147 u148 u149 u150 u151 u152 u153 u154 u155 u156 u157 u158 u159 u160 u161 u162 u163 u164 u165 u166 u167 u168 u169 u170 u171 u172 u173 u174 u175 u176 u177 u178 u179 u180 u181 u182 u183 u184 u185 u186 u187 u188 u189 u190 u191 u192 u193 u194 u195 u196 u197 u198 u199 u200 u201 u202 u203 u204 u205 u206 u207 u208 u209 u210 u211 u212 u213 u214 u215 u216 u217 u218 u219 u220 u221 u222 u223 u224 u225 u226 u227 u228 u229 u230 u231 u232 u233 u234 u235 u236 u237 u238 u239 u240 u241 u242 u243 u244 u245 u246 u247 u248 u249 u250 u251 u252 u253 u254 u255 u256 u257 u258 u259 u260 u261 u262 u263 u264 u265 u266 u267 : Value} {K : Act → World → Prop} {Q : Exit → Act → World → Prop}
    (k0 : ¬ kd = 0) (k1 : ¬ kd = 1) (k2 : ¬ kd = 2) (k3 : ¬ kd = 3) (hg : go? (lst t) t.sh t.c num mss) (h0 : ¬ t.c = 0) (L5' : Own w w5 w.heap.size v t) (B5' : SB bx cs w5) (HC1' : ∀ g W, SB g cs W → W.cell? ⟨g, 1, none⟩ = some (.int .i64 num) ∧ W.cell? ⟨g, 2, none⟩ = some (.int .i64 mss) ∧ W.cell? ⟨g, 4, none⟩ = some (.string x)) (hn1 : -9223372036854775808 ≤ num) (hn2 : num ≤ 9223372036854775807) (hp1 : -9223372036854775808 ≤ mss) (hp2 : mss ≤ 9223372036854775807) (hxz : x.size ≤ maxLen) (hA : t.A.size ≤ 2048 * k) (hA1 : t.A.size ≤ 4503599627370000)
    (hmeet : ∀ (W : World) (v' : Value) (t' : St) (z4 z5 z6 z9 z10 z11 z12 z13 z14 z15 z27 z28 z29 z30 z31 z32 z33 z34 z35 z36 z37 z38 z39 z40 z41 z42 z43 z44 z45 z46 z47 z48 z49 z50 z51 z52 z53 z54 z55 z56 z57 z58 z59 z60 z61 z62 z63 z64 z65 z66 z67 z68 z69 z70 z71 z72 z73 z74 z75 z76 z77 z78 z79 z80 z81 z82 z83 z84 z85 z86 z87 z88 z89 z90 z91 z92 z93 z94 z95 z96 z97 z98 z99 z100 z101 z102 z103 z104 z105 z106 z107 z108 z109 z110 z111 z112 z113 z114 z115 z116 z117 z118 z119 z120 z121 z122 z123 z124 z125 z126 z127 z128 z129 z130 z131 z132 z133 z134 z135 z136 z137 z138 z139 z140 z141 z142 z143 z144 z145 z146 z147 z148 z149 z150 z151 z152 z153 z154 z155 z156 z157 z158 z159 z160 z161 z162 z163 z164 z165 z166 z167 z168 z169 z170 z171 z172 z173 z174 z175 z176 z177 z178 z179 z180 z181 z182 z183 z184 z185 z186 z187 z188 z189 z190 z191 z192 z193 z194 z195 z196 z197 z198 z199 z200 z201 z202 z203 z204 z205 z206 z207 z208 z209 z210 z211 z212 z213 z214 z215 z216 z217 z218 z219 z220 z221 z222 z223 z224 z225 z226 z227 z228 z229 z230 z231 z232 z233 : Value), z4 = .string t'.A → z5 = .bool t'.sh → z6 = .int .i64 t'.s → t'.A.size ≤ 2048 * (k + 1) → Own w W w.heap.size v' t' → K ⟨#[.slice (some ⟨b, off, none⟩) len cap, undef, u2, .pointer (some ⟨w.heap.size, 0, none⟩), z4, z5, z6, undef, .pointer (some ⟨bx, 0, none⟩), z9, z10, z11, z12, z13, z14, z15, .pointer (some ⟨w.heap.size, 0, none⟩), .pointer (some ⟨w.heap.size, 0, none⟩), .bool false, .slice (some ⟨b, off, none⟩) len cap, .int .i64 (len : Int), .int .i64 (k : Int), .bool true, .pointer (some ⟨b, off + k * 45, none⟩), .agg cs.toArray, .agg cs.toArray, .int .i64 kd, z27, z28, z29, z30, z31, z32, z33, z34, z35, z36, z37, z38, z39, z40, z41, z42, z43, z44, z45, z46, z47, z48, z49, z50, z51, z52, z53, z54, z55, z56, z57, z58, z59, z60, z61, z62, z63, z64, z65, z66, z67, z68, z69, z70, z71, z72, z73, z74, z75, z76, z77, z78, z79, z80, z81, z82, z83, z84, z85, z86, z87, z88, z89, z90, z91, z92, z93, z94, z95, z96, z97, z98, z99, z100, z101, z102, z103, z104, z105, z106, z107, z108, z109, z110, z111, z112, z113, z114, z115, z116, z117, z118, z119, z120, z121, z122, z123, z124, z125, z126, z127, z128, z129, z130, z131, z132, z133, z134, z135, z136, z137, z138, z139, z140, z141, z142, z143, z144, z145, z146, z147, z148, z149, z150, z151, z152, z153, z154, z155, z156, z157, z158, z159, z160, z161, z162, z163, z164, z165, z166, z167, z168, z169, z170, z171, z172, z173, z174, z175, z176, z177, z178, z179, z180, z181, z182, z183, z184, z185, z186, z187, z188, z189, z190, z191, z192, z193, z194, z195, z196, z197, z198, z199, z200, z201, z202, z203, z204, z205, z206, z207, z208, z209, z210, z211, z212, z213, z214, z215, z216, z217, z218, z219, z220, z221, z222, z223, z224, z225, z226, z227, z228, z229, z230, z231, z232, z233, u234, u235, u236, u237, u238, u239, u240, u241, u242, u243, u244, u245, u246, u247, u248, u249, u250, u251, u252, u253, u254, u255, u256, u257, u258, u259, u260, u261, u262, u263, u264, u265, u266, u267, undef, undef, undef], []⟩ W)
    (hexit : ∀ (W : World) (z9 z10 z11 z12 z13 z14 z15 z27 z28 z29 z30 z31 z32 z33 z34 z35 z36 z37 z38 z39 z40 z41 z42 z43 z44 z45 z46 z47 z48 z49 z50 z51 z52 z53 z54 z55 z56 z57 z58 z59 z60 z61 z62 z63 z64 z65 z66 z67 z68 z69 z70 z71 z72 z73 z74 z75 z76 z77 z78 z79 z80 z81 z82 z83 z84 z85 z86 z87 z88 z89 z90 z91 z92 z93 z94 z95 z96 z97 z98 z99 z100 z101 z102 z103 z104 z105 z106 z107 z108 z109 z110 z111 z112 z113 z114 z115 z116 z117 z118 z119 z120 z121 z122 z123 z124 z125 z126 z127 z128 z129 z130 z131 z132 z133 z134 z135 z136 z137 z138 z139 z140 z141 z142 z143 z144 z145 z146 z147 z148 z149 z150 z151 z152 z153 z154 z155 z156 z157 z158 z159 z160 z161 z162 z163 z164 z165 z166 z167 z168 z169 z170 z171 z172 z173 z174 z175 z176 z177 z178 z179 z180 z181 z182 z183 z184 z185 z186 z187 z188 z189 z190 z191 z192 z193 z194 z195 z196 z197 z198 z199 z200 z201 z202 z203 z204 z205 z206 z207 z208 z209 z210 z211 z212 z213 z214 z215 z216 z217 z218 z219 z220 z221 z222 z223 z224 z225 z226 z227 z228 z229 z230 z231 z232 z233 : Value), Own w W w.heap.size v t → Q (.exit 1) ⟨#[.slice (some ⟨b, off, none⟩) len cap, undef, u2, .pointer (some ⟨w.heap.size, 0, none⟩), .string t.A, .bool t.sh, .int .i64 t.s, undef, .pointer (some ⟨bx, 0, none⟩), z9, z10, z11, z12, z13, z14, z15, .pointer (some ⟨w.heap.size, 0, none⟩), .pointer (some ⟨w.heap.size, 0, none⟩), .bool false, .slice (some ⟨b, off, none⟩) len cap, .int .i64 (len : Int), .int .i64 (k : Int), .bool true, .pointer (some ⟨b, off + k * 45, none⟩), .agg cs.toArray, .agg cs.toArray, .int .i64 kd, z27, z28, z29, z30, z31, z32, z33, z34, z35, z36, z37, z38, z39, z40, z41, z42, z43, z44, z45, z46, z47, z48, z49, z50, z51, z52, z53, z54, z55, z56, z57, z58, z59, z60, z61, z62, z63, z64, z65, z66, z67, z68, z69, z70, z71, z72, z73, z74, z75, z76, z77, z78, z79, z80, z81, z82, z83, z84, z85, z86, z87, z88, z89, z90, z91, z92, z93, z94, z95, z96, z97, z98, z99, z100, z101, z102, z103, z104, z105, z106, z107, z108, z109, z110, z111, z112, z113, z114, z115, z116, z117, z118, z119, z120, z121, z122, z123, z124, z125, z126, z127, z128, z129, z130, z131, z132, z133, z134, z135, z136, z137, z138, z139, z140, z141, z142, z143, z144, z145, z146, z147, z148, z149, z150, z151, z152, z153, z154, z155, z156, z157, z158, z159, z160, z161, z162, z163, z164, z165, z166, z167, z168, z169, z170, z171, z172, z173, z174, z175, z176, z177, z178, z179, z180, z181, z182, z183, z184, z185, z186, z187, z188, z189, z190, z191, z192, z193, z194, z195, z196, z197, z198, z199, z200, z201, z202, z203, z204, z205, z206, z207, z208, z209, z210, z211, z212, z213, z214, z215, z216, z217, z218, z219, z220, z221, z222, z223, z224, z225, z226, z227, z228, z229, z230, z231, z232, z233, u234, u235, u236, u237, u238, u239, u240, u241, u242, u243, u244, u245, u246, u247, u248, u249, u250, u251, u252, u253, u254, u255, u256, u257, u258, u259, u260, u261, u262, u263, u264, u265, u266, u267, undef, undef, undef], []⟩ W) :
    Code.wp Try.prog ((Try.f4.body.bind (blkAt 2)).getD .skip) (Exit.then K Q) ⟨#[.slice (some ⟨b, off, none⟩) len cap, undef, u2, .pointer (some ⟨w.heap.size, 0, none⟩), .string t.A, .bool t.sh, .int .i64 t.s, undef, .pointer (some ⟨bx, 0, none⟩), u9, u10, u11, u12, u13, u14, u15, .pointer (some ⟨w.heap.size, 0, none⟩), .pointer (some ⟨w.heap.size, 0, none⟩), .bool false, .slice (some ⟨b, off, none⟩) len cap, .int .i64 (len : Int), .int .i64 (k : Int), .bool true, .pointer (some ⟨b, off + k * 45, none⟩), .agg cs.toArray, .agg cs.toArray, .int .i64 kd, u27, u28, u29, u30, u31, u32, u33, u34, u35, u36, u37, u38, u39, u40, u41, u42, u43, u44, u45, u46, u47, u48, u49, u50, u51, u52, u53, u54, u55, u56, u57, u58, u59, u60, u61, u62, u63, u64, u65, u66, u67, u68, u69, u70, u71, u72, u73, u74, u75, u76, u77, u78, u79, u80, u81, u82, u83, u84, u85, u86, u87, u88, u89, u90, u91, u92, u93, u94, u95, u96, u97, u98, u99, u100, u101, u102, u103, u104, u105, u106, u107, u108, u109, u110, u111, u112, u113, u114, u115, u116, u117, u118, u119, u120, u121, u122, u123, u124, u125, u126, u127, u128, u129, u130, u131, u132, u133, u134, u135, u136, u137, u138, u139, u140, u141, u142, u143, u144, u145, u146, u147, u148, u149, u150, u151, u152, u153, u154, u155, u156, u157, u158, u159, u160, u161, u162, u163, u164, u165, u166, u167, u168, u169, u170, u171, u172, u173, u174, u175, u176, u177, u178, u179, u180, u181, u182, u183, u184, u185, u186, u187, u188, u189, u190, u191, u192, u193, u194, u195, u196, u197, u198, u199, u200, u201, u202, u203, u204, u205, u206, u207, u208, u209, u210, u211, u212, u213, u214, u215, u216, u217, u218, u219, u220, u221, u222, u223, u224, u225, u226, u227, u228, u229, u230, u231, u232, u233, u234, u235, u236, u237, u238, u239, u240, u241, u242, u243, u244, u245, u246, u247, u248, u249, u250, u251, u252, u253, u254, u255, u256, u257, u258, u259, u260, u261, u262, u263, u264, u265, u266, u267, undef, undef, undef], []⟩ w5 := by
  have hA2 : t.A.size ≤ 4503599627370496 := by omega
  have L5 := Lib.hid L5'
  have B5 := Lib.hid B5'
  have HC1 := Lib.hid HC1'
  dsimp only at hmeet hexit
  have HM := Lib.hid hmeet
  have HX := Lib.hid hexit
  clear L5' B5' HC1' hmeet hexit
  obtain ⟨c1, c2, c4⟩ := HC1.out _ _ B5.out
  conv => arg 2; whnf
  have HCu : Hid (∀ W, Own w W w.heap.size v t → Calls Try.prog 19 #[.pointer (some ⟨w.heap.size, 0, none⟩)] W fun e W' => e = .returned (.int .i64 t.c) ∧ W' = W) := fun W h => q_cur h.own
  have HW : Hid (∀ W, Own w W w.heap.size v t → SB bx cs W → Calls Try.prog 11 #[.pointer (some ⟨w.heap.size, 0, none⟩), .int .i64 num, .int .i64 mss] W fun e W' => e = .returned (.tuple #[pvv (nxP t num mss), .bool (nxG t num mss)]) ∧ Own w W' w.heap.size v (nx t num mss) ∧ SB bx cs W') := fun W h hs => (q_next num mss h.own h.ok hA2 hp2).mono fun e W' h' => ⟨h'.1, h.put1 h'.2.1 (h.ok.nx num mss) h'.2.2, hs.ko h (h'.2.2.mono (by simp))⟩
  obtain ⟨u3', u4', u5', u6', u9', u8'⟩ := bnd6 L5.out.ok hA2
  have hA' : (nx t num mss).A = t.A := rfl
  have hsh' : (nx t num mss).sh = t.sh := rfl
  have hs' : (nx t num mss).s = max t.s (nxC t num mss) := rfl
  have hc' : (nx t num mss).c = nxC t num mss := rfl
  have hend : enI t ≤ (t.A.size : Int) + 2 := by have := (en_le (lst t) t.sh).2; unfold enI lst at *; omega
  have hcl : t.c < num ∧ t.c ≤ (t.A.size : Int) + 1 ∧ 1 ≤ mss := by have := (en_le (lst t) t.sh).2; obtain ⟨g1, g2⟩ := hg; unfold lst at *; omega
  have HGo := nx_goes t num mss L5.out.ok hg h0
  obtain ⟨HGo, hgg⟩ := HGo
  rw [hgg] at HW
  rw [HGo.c] at hs' hc'
  obtain ⟨q1, q2, q3, q4, q5, q6, q7, q8, _⟩ := HGo
  generalize nxP t num mss = p at *
  obtain ⟨pa0, ps, pf, T⟩ := p
  dsimp only at q1 q2 q3 q4 q5 q6 q7 q8 hs' hc'
  subst q1 q2
  have HX1 := Lib.hid hA'
  have HX2 := Lib.hid hsh'
  clear hA' hsh'
  have h0' : (t.c == 0) = false := by simpa using h0
  obtain ⟨hl1, hl2, hl3⟩ := hcl
  have hc0 : 0 < t.c := by omega
  have s1 : ∀ w', (Instr.slice 9 (.string t.A) (some (.int .i64 (t.c - 1))) (some (.int .i64 (t.c - 1 + (T.size : Int)))) none).run Try.prog w' = .ok (.string T) w' := fun w' => by
    have := run_slice_string (P := Try.prog) w' 9 t.A .i64 .i64 (t.c - 1) (t.c - 1 + (T.size : Int)) Try.underlying9 (by omega) (by omega) (by omega)
    rw [← q6] at this; exact this
  clear hg hgg q6
  cases pf with
  | true =>
    by_cases hT0 : (T.size : Int) ≤ 0
    · have hs3 : (nx t num mss).s = max t.s (t.c + (T.size : Int) + 1) := by rw [hs']; simp
      have hc3 : (nx t num mss).c = (t.c + (T.size : Int) + 1) := by rw [hc']; simp
      have HC2 : Hid (∀ W, Own w W w.heap.size v (nx t num mss) → Calls Try.prog 19 #[.pointer (some ⟨w.heap.size, 0, none⟩)] W fun e W' => e = .returned (.int .i64 (t.c + (T.size : Int) + 1)) ∧ W' = W) := fun W h => (q_cur h.own).mono fun e W' h' => ⟨by rw [h'.1, hc3], h'.2⟩
      have HX3 := Lib.hid hs3
      clear hs' hc' hs3 hc3
      obtain ⟨r1, r2, r3⟩ := q7 rfl
      have r4 : t.c + (T.size : Int) ≤ (t.A.size : Int) + 1 := by omega
      have r5 : (t.A.size : Int) + 1 ≤ t.c + (T.size : Int) := by omega
      clear r2 q7 q8
      have hne : (t.c + (T.size : Int) + 1 == t.c) = false := by simp; omega
      have hr4 : (t.c + (T.size : Int) == (t.A.size : Int) + 1) = true := by simp; omega
      have hr5 : (t.c + (T.size : Int) != (t.A.size : Int) + 1) = false := by simp; omega
      have hTe := no_text hT0
      generalize nx t num mss = t' at *
      go_wp2_with fail
      refine (HCu.out _ L5.out).mono ?_; rintro e w6 ⟨rfl, rfl⟩
      go_wp2_with fail
      refine (HW.out _ L5.out B5.out).mono ?_; rintro e w7 ⟨rfl, hL7, hB7⟩
      have L7 : Hid (Own w (w7.alloc (.cells (pcs ⟨t.c, false, true, T⟩) 46)) w.heap.size v t') := hL7.alloc _
      have B7 : Hid (SB bx cs (w7.alloc (.cells (pcs ⟨t.c, false, true, T⟩) 46))) := hB7.keep ((Below.refl _ _).alloc (Nat.le_refl _) _)
      have P7 : Hid (PB w7.heap.size ⟨t.c, false, true, T⟩ (w7.alloc (.cells (pcs ⟨t.c, false, true, T⟩) 46))) := PB.new _ _
      clear hL7 hB7
      go_upto_region 11 with (refine wpList_store_last rfl 46 _ _ rfl w7 _ (pcs ⟨t.c, false, true, T⟩) rfl rfl rfl info46 rfl (pcs_one _) ?_)
      generalize w7.heap.size = pa at *
      generalize w7.alloc (.cells (pcs ⟨t.c, false, true, T⟩) 46) = w8 at *
      obtain ⟨e1, e2, e4⟩ := HC1.out _ _ B7.out
      have g0 := P7.out.c0
      have g1 := P7.out.c1
      have g2 := P7.out.c2
      have g3 := P7.out.c3
      clear c1 c2 c4 HW HCu
      go_wp2_with fail
      refine (HC2.out _ L7.out).mono ?_; rintro e w9 ⟨rfl, rfl⟩
      go_wp2_with fail
      go_quiet (fail)
      have L9 := Lib.hid (L7.out.drewN nq)
      clear L7 B7 P7 e1 e2 e4 g0 g1 g2 g3
      generalize (World.drewN _ nq) = w10 at *
      go_wp2_with fail
      exact HM.out _ _ (t') _ _ _ _ _ _ _ _ _ _ _ _ _ _ _ _ _ _ _ _ _ _ _ _ _ _ _ _ _ _ _ _ _ _ _ _ _ _ _ _ _ _ _ _ _ _ _ _ _ _ _ _ _ _ _ _ _ _ _ _ _ _ _ _ _ _ _ _ _ _ _ _ _ _ _ _ _ _ _ _ _ _ _ _ _ _ _ _ _ _ _ _ _ _ _ _ _ _ _ _ _ _ _ _ _ _ _ _ _ _ _ _ _ _ _ _ _ _ _ _ _ _ _ _ _ _ _ _ _ _ _ _ _ _ _ _ _ _ _ _ _ _ _ _ _ _ _ _ _ _ _ _ _ _ _ _ _ _ _ _ _ _ _ _ _ _ _ _ _ _ _ _ _ _ _ _ _ _ _ _ _ _ _ _ _ _ _ _ _ _ _ _ _ _ _ _ _ _ _ _ _ _ _ _ _ _ _ _ _ _ _ _ _ _ _ _ _ (by rw [HX1.out]) (by first | (rw [HX2.out]; done) | (rw [HX2.out, r1])) (by rw [HX3.out]) (by rw [HX1.out]; omega) L9.out
    · have hs3 : (nx t num mss).s = max t.s (t.c + (T.size : Int) + 1) := by rw [hs']; simp
      have hc3 : (nx t num mss).c = (t.c + (T.size : Int) + 1) := by rw [hc']; simp
      have HC2 : Hid (∀ W, Own w W w.heap.size v (nx t num mss) → Calls Try.prog 19 #[.pointer (some ⟨w.heap.size, 0, none⟩)] W fun e W' => e = .returned (.int .i64 (t.c + (T.size : Int) + 1)) ∧ W' = W) := fun W h => (q_cur h.own).mono fun e W' h' => ⟨by rw [h'.1, hc3], h'.2⟩
      have HX3 := Lib.hid hs3
      clear hs' hc' hs3 hc3
      obtain ⟨r1, r2, r3⟩ := q7 rfl
      have r4 : t.c + (T.size : Int) ≤ (t.A.size : Int) + 1 := by omega
      have r5 : (t.A.size : Int) + 1 ≤ t.c + (T.size : Int) := by omega
      clear r2 q7 q8
      have hne : (t.c + (T.size : Int) + 1 == t.c) = false := by simp; omega
      have hr4 : (t.c + (T.size : Int) == (t.A.size : Int) + 1) = true := by simp; omega
      have hr5 : (t.c + (T.size : Int) != (t.A.size : Int) + 1) = false := by simp; omega
      have hT1 : 0 < (T.size : Int) := by omega
      have hTe := ne_text hT1
      have hq1 : decide (t.c < 1) = false := by simp; omega
      have hq2 : decide ((t.A.size : Int) < t.c - 1 + (T.size : Int)) = false := by simp; omega
      generalize nx t num mss = t' at *
      go_wp2_with fail
      refine (HCu.out _ L5.out).mono ?_; rintro e w6 ⟨rfl, rfl⟩
      go_wp2_with fail
      refine (HW.out _ L5.out B5.out).mono ?_; rintro e w7 ⟨rfl, hL7, hB7⟩
      have L7 : Hid (Own w (w7.alloc (.cells (pcs ⟨t.c, false, true, T⟩) 46)) w.heap.size v t') := hL7.alloc _
      have B7 : Hid (SB bx cs (w7.alloc (.cells (pcs ⟨t.c, false, true, T⟩) 46))) := hB7.keep ((Below.refl _ _).alloc (Nat.le_refl _) _)
      have P7 : Hid (PB w7.heap.size ⟨t.c, false, true, T⟩ (w7.alloc (.cells (pcs ⟨t.c, false, true, T⟩) 46))) := PB.new _ _
      clear hL7 hB7
      go_upto_region 11 with (refine wpList_store_last rfl 46 _ _ rfl w7 _ (pcs ⟨t.c, false, true, T⟩) rfl rfl rfl info46 rfl (pcs_one _) ?_)
      generalize w7.heap.size = pa at *
      generalize w7.alloc (.cells (pcs ⟨t.c, false, true, T⟩) 46) = w8 at *
      obtain ⟨e1, e2, e4⟩ := HC1.out _ _ B7.out
      have g0 := P7.out.c0
      have g1 := P7.out.c1
      have g2 := P7.out.c2
      have g3 := P7.out.c3
      clear c1 c2 c4 HW HCu
      go_wp2_with fail
      refine (HC2.out _ L7.out).mono ?_; rintro e w9 ⟨rfl, rfl⟩
      go_wp2_with fail
      go_quiet (fail)
      have L9 := Lib.hid (L7.out.drewN nq)
      clear L7 B7 P7 e1 e2 e4 g0 g1 g2 g3
      generalize (World.drewN _ nq) = w10 at *
      go_wp2_with fail
      exact HM.out _ _ (t') _ _ _ _ _ _ _ _ _ _ _ _ _ _ _ _ _ _ _ _ _ _ _ _ _ _ _ _ _ _ _ _ _ _ _ _ _ _ _ _ _ _ _ _ _ _ _ _ _ _ _ _ _ _ _ _ _ _ _ _ _ _ _ _ _ _ _ _ _ _ _ _ _ _ _ _ _ _ _ _ _ _ _ _ _ _ _ _ _ _ _ _ _ _ _ _ _ _ _ _ _ _ _ _ _ _ _ _ _ _ _ _ _ _ _ _ _ _ _ _ _ _ _ _ _ _ _ _ _ _ _ _ _ _ _ _ _ _ _ _ _ _ _ _ _ _ _ _ _ _ _ _ _ _ _ _ _ _ _ _ _ _ _ _ _ _ _ _ _ _ _ _ _ _ _ _ _ _ _ _ _ _ _ _ _ _ _ _ _ _ _ _ _ _ _ _ _ _ _ _ _ _ _ _ _ _ _ _ _ _ _ _ _ _ _ _ _ (by rw [HX1.out]) (by first | (rw [HX2.out]; done) | (rw [HX2.out, r1])) (by rw [HX3.out]) (by rw [HX1.out]; omega) L9.out
  | false =>
    have hs3 : (nx t num mss).s = max t.s (t.c + (T.size : Int)) := by rw [hs']; simp
    have hc3 : (nx t num mss).c = (t.c + (T.size : Int)) := by rw [hc']; simp
    have HC2 : Hid (∀ W, Own w W w.heap.size v (nx t num mss) → Calls Try.prog 19 #[.pointer (some ⟨w.heap.size, 0, none⟩)] W fun e W' => e = .returned (.int .i64 (t.c + (T.size : Int))) ∧ W' = W) := fun W h => (q_cur h.own).mono fun e W' h' => ⟨by rw [h'.1, hc3], h'.2⟩
    have HX3 := Lib.hid hs3
    clear hs' hc' hs3 hc3
    have r6 := q8 rfl
    clear q7 q8
    have hne : (t.c + (T.size : Int) == t.c) = false := by simp; omega
    have hT1 : 0 < (T.size : Int) := by omega
    have hTe := ne_text hT1
    have hq1 : decide (t.c < 1) = false := by simp; omega
    have hq2 : decide ((t.A.size : Int) < t.c - 1 + (T.size : Int)) = false := by simp; omega
    generalize nx t num mss = t' at *
    go_wp2_with fail
    refine (HCu.out _ L5.out).mono ?_; rintro e w6 ⟨rfl, rfl⟩
    go_wp2_with fail
    refine (HW.out _ L5.out B5.out).mono ?_; rintro e w7 ⟨rfl, hL7, hB7⟩
    have L7 : Hid (Own w (w7.alloc (.cells (pcs ⟨t.c, false, false, T⟩) 46)) w.heap.size v t') := hL7.alloc _
    have B7 : Hid (SB bx cs (w7.alloc (.cells (pcs ⟨t.c, false, false, T⟩) 46))) := hB7.keep ((Below.refl _ _).alloc (Nat.le_refl _) _)
    have P7 : Hid (PB w7.heap.size ⟨t.c, false, false, T⟩ (w7.alloc (.cells (pcs ⟨t.c, false, false, T⟩) 46))) := PB.new _ _
    clear hL7 hB7
    go_upto_region 11 with (refine wpList_store_last rfl 46 _ _ rfl w7 _ (pcs ⟨t.c, false, false, T⟩) rfl rfl rfl info46 rfl (pcs_one _) ?_)
    generalize w7.heap.size = pa at *
    generalize w7.alloc (.cells (pcs ⟨t.c, false, false, T⟩) 46) = w8 at *
    obtain ⟨e1, e2, e4⟩ := HC1.out _ _ B7.out
    have g0 := P7.out.c0
    have g1 := P7.out.c1
    have g2 := P7.out.c2
    have g3 := P7.out.c3
    clear c1 c2 c4 HW HCu
    go_wp2_with fail
    refine (HC2.out _ L7.out).mono ?_; rintro e w9 ⟨rfl, rfl⟩
    go_wp2_with fail
    go_quiet (fail)
    have L9 := Lib.hid (L7.out.drewN nq)
    clear L7 B7 P7 e1 e2 e4 g0 g1 g2 g3
    generalize (World.drewN _ nq) = w10 at *
    go_wp2_with fail
    exact HM.out _ _ (t') _ _ _ _ _ _ _ _ _ _ _ _ _ _ _ _ _ _ _ _ _ _ _ _ _ _ _ _ _ _ _ _ _ _ _ _ _ _ _ _ _ _ _ _ _ _ _ _ _ _ _ _ _ _ _ _ _ _ _ _ _ _ _ _ _ _ _ _ _ _ _ _ _ _ _ _ _ _ _ _ _ _ _ _ _ _ _ _ _ _ _ _ _ _ _ _ _ _ _ _ _ _ _ _ _ _ _ _ _ _ _ _ _ _ _ _ _ _ _ _ _ _ _ _ _ _ _ _ _ _ _ _ _ _ _ _ _ _ _ _ _ _ _ _ _ _ _ _ _ _ _ _ _ _ _ _ _ _ _ _ _ _ _ _ _ _ _ _ _ _ _ _ _ _ _ _ _ _ _ _ _ _ _ _ _ _ _ _ _ _ _ _ _ _ _ _ _ _ _ _ _ _ _ _ _ _ _ _ _ _ _ _ _ _ _ _ _ (by rw [HX1.out]) (by first | (rw [HX2.out]; done) | (rw [HX2.out, r1])) (by rw [HX3.out]) (by rw [HX1.out]; omega) L9.out

set_option maxHeartbeats 8000000 in
set_option maxRecDepth 1000000 in
theorem arm_any {w w5 : World} {b off len cap bx k : Nat} {v : Value} {t : St} {cs : List Value} {num mss : Int} {x : ByteArray} {kd : Int} {u2 u9 u10 u11 u12 u13 u14 u15 u27 u28 u29 u30 u31 u32 u33 u34 u35 u36 u37 u38 u39 u40 u41 u42 u43 u44 u45 u46 u47 u48 u49 u50 u51 u52 u53 u54 u55 u56 u57 u58 u59 u60 u61 u62 u63 u64 u65 u66 u67 u68 u69 u70 u71 u72 u73 u74 u75 u76 u77 u78 u79 u80 u81 u82 u83 u84 u85 u86 u87 u88 u89 u90 u91 u92 u93 u94 u95 u96 u97 u98 u99 u100 u101 u102 u103 u104 u105 u106 u107 u108 u109 u110 u111 u112 u113 u114 u115 u116 u117 u118 u119 u120 u121 u122 u123 u124 u125 u126 u127 u128 u129 u130 u131 u132 u133 u134 u135 u136 u137 u138 u139 u140 u141 u142 u143 u144 u145 u146 u147 u148 u149 u150 u151 u152 u153 u154 u155 u156 u157 u158 u159 u160 u161 u162 u163 u164 u165 u166 u167 u168 u169 u170 u171 u172 u173 u174 u175 u176 u177 u178 u179 u180 u181 u182 u183 u184 u185 u186 u187 u188 u189 u190 u191 u192 u193 u194 u195 u196 u197 u198 u199 u200 u201 u202 u203 u204 u205 u206 u207 u208 u209 u210 u211 u212 u213 u214 u215 u216 u217 u218 u219 u220 u221 u222 u223 u224 u225 u226 u227 u228 u229 u230 u231 u232 u233 u234 u235 u236 u237 u238 u239 u240 u241 u242 u243 u244 u245 u246 u247 u248 u249 u250 u251 u252 u253 u254 u255 u256 u257 u258 u259 u260 u261 u262 u263 u264 u265 u266 u267 : Value} {K : Act → World → Prop} {Q : Exit → Act → World → Prop}
    (L5' : Own w w5 w.heap.size v t) (B5' : SB bx cs w5) (HC1' : ∀ g W, SB g cs W → W.cell? ⟨g, 1, none⟩ = some (.int .i64 num) ∧ W.cell? ⟨g, 2, none⟩ = some (.int .i64 mss) ∧ W.cell? ⟨g, 4, none⟩ = some (.string x)) (hn1 : -9223372036854775808 ≤ num) (hn2 : num ≤ 9223372036854775807) (hp1 : -9223372036854775808 ≤ mss) (hp2 : mss ≤ 9223372036854775807) (hxz : x.size ≤ maxLen) (hA : t.A.size ≤ 2048 * k) (hA1 : t.A.size ≤ 4503599627370000)
    (hmeet : ∀ (W : World) (v' : Value) (t' : St) (z4 z5 z6 z9 z10 z11 z12 z13 z14 z15 z27 z28 z29 z30 z31 z32 z33 z34 z35 z36 z37 z38 z39 z40 z41 z42 z43 z44 z45 z46 z47 z48 z49 z50 z51 z52 z53 z54 z55 z56 z57 z58 z59 z60 z61 z62 z63 z64 z65 z66 z67 z68 z69 z70 z71 z72 z73 z74 z75 z76 z77 z78 z79 z80 z81 z82 z83 z84 z85 z86 z87 z88 z89 z90 z91 z92 z93 z94 z95 z96 z97 z98 z99 z100 z101 z102 z103 z104 z105 z106 z107 z108 z109 z110 z111 z112 z113 z114 z115 z116 z117 z118 z119 z120 z121 z122 z123 z124 z125 z126 z127 z128 z129 z130 z131 z132 z133 z134 z135 z136 z137 z138 z139 z140 z141 z142 z143 z144 z145 z146 z147 z148 z149 z150 z151 z152 z153 z154 z155 z156 z157 z158 z159 z160 z161 z162 z163 z164 z165 z166 z167 z168 z169 z170 z171 z172 z173 z174 z175 z176 z177 z178 z179 z180 z181 z182 z183 z184 z185 z186 z187 z188 z189 z190 z191 z192 z193 z194 z195 z196 z197 z198 z199 z200 z201 z202 z203 z204 z205 z206 z207 z208 z209 z210 z211 z212 z213 z214 z215 z216 z217 z218 z219 z220 z221 z222 z223 z224 z225 z226 z227 z228 z229 z230 z231 z232 z233 : Value), z4 = .string t'.A → z5 = .bool t'.sh → z6 = .int .i64 t'.s → t'.A.size ≤ 2048 * (k + 1) → Own w W w.heap.size v' t' → K ⟨#[.slice (some ⟨b, off, none⟩) len cap, undef, u2, .pointer (some ⟨w.heap.size, 0, none⟩), z4, z5, z6, undef, .pointer (some ⟨bx, 0, none⟩), z9, z10, z11, z12, z13, z14, z15, .pointer (some ⟨w.heap.size, 0, none⟩), .pointer (some ⟨w.heap.size, 0, none⟩), .bool false, .slice (some ⟨b, off, none⟩) len cap, .int .i64 (len : Int), .int .i64 (k : Int), .bool true, .pointer (some ⟨b, off + k * 45, none⟩), .agg cs.toArray, .agg cs.toArray, .int .i64 kd, z27, z28, z29, z30, z31, z32, z33, z34, z35, z36, z37, z38, z39, z40, z41, z42, z43, z44, z45, z46, z47, z48, z49, z50, z51, z52, z53, z54, z55, z56, z57, z58, z59, z60, z61, z62, z63, z64, z65, z66, z67, z68, z69, z70, z71, z72, z73, z74, z75, z76, z77, z78, z79, z80, z81, z82, z83, z84, z85, z86, z87, z88, z89, z90, z91, z92, z93, z94, z95, z96, z97, z98, z99, z100, z101, z102, z103, z104, z105, z106, z107, z108, z109, z110, z111, z112, z113, z114, z115, z116, z117, z118, z119, z120, z121, z122, z123, z124, z125, z126, z127, z128, z129, z130, z131, z132, z133, z134, z135, z136, z137, z138, z139, z140, z141, z142, z143, z144, z145, z146, z147, z148, z149, z150, z151, z152, z153, z154, z155, z156, z157, z158, z159, z160, z161, z162, z163, z164, z165, z166, z167, z168, z169, z170, z171, z172, z173, z174, z175, z176, z177, z178, z179, z180, z181, z182, z183, z184, z185, z186, z187, z188, z189, z190, z191, z192, z193, z194, z195, z196, z197, z198, z199, z200, z201, z202, z203, z204, z205, z206, z207, z208, z209, z210, z211, z212, z213, z214, z215, z216, z217, z218, z219, z220, z221, z222, z223, z224, z225, z226, z227, z228, z229, z230, z231, z232, z233, u234, u235, u236, u237, u238, u239, u240, u241, u242, u243, u244, u245, u246, u247, u248, u249, u250, u251, u252, u253, u254, u255, u256, u257, u258, u259, u260, u261, u262, u263, u264, u265, u266, u267, undef, undef, undef], []⟩ W)
    (hexit : ∀ (W : World) (z9 z10 z11 z12 z13 z14 z15 z27 z28 z29 z30 z31 z32 z33 z34 z35 z36 z37 z38 z39 z40 z41 z42 z43 z44 z45 z46 z47 z48 z49 z50 z51 z52 z53 z54 z55 z56 z57 z58 z59 z60 z61 z62 z63 z64 z65 z66 z67 z68 z69 z70 z71 z72 z73 z74 z75 z76 z77 z78 z79 z80 z81 z82 z83 z84 z85 z86 z87 z88 z89 z90 z91 z92 z93 z94 z95 z96 z97 z98 z99 z100 z101 z102 z103 z104 z105 z106 z107 z108 z109 z110 z111 z112 z113 z114 z115 z116 z117 z118 z119 z120 z121 z122 z123 z124 z125 z126 z127 z128 z129 z130 z131 z132 z133 z134 z135 z136 z137 z138 z139 z140 z141 z142 z143 z144 z145 z146 z147 z148 z149 z150 z151 z152 z153 z154 z155 z156 z157 z158 z159 z160 z161 z162 z163 z164 z165 z166 z167 z168 z169 z170 z171 z172 z173 z174 z175 z176 z177 z178 z179 z180 z181 z182 z183 z184 z185 z186 z187 z188 z189 z190 z191 z192 z193 z194 z195 z196 z197 z198 z199 z200 z201 z202 z203 z204 z205 z206 z207 z208 z209 z210 z211 z212 z213 z214 z215 z216 z217 z218 z219 z220 z221 z222 z223 z224 z225 z226 z227 z228 z229 z230 z231 z232 z233 : Value), Own w W w.heap.size v t → Q (.exit 1) ⟨#[.slice (some ⟨b, off, none⟩) len cap, undef, u2, .pointer (some ⟨w.heap.size, 0, none⟩), .string t.A, .bool t.sh, .int .i64 t.s, undef, .pointer (some ⟨bx, 0, none⟩), z9, z10, z11, z12, z13, z14, z15, .pointer (some ⟨w.heap.size, 0, none⟩), .pointer (some ⟨w.heap.size, 0, none⟩), .bool false, .slice (some ⟨b, off, none⟩) len cap, .int .i64 (len : Int), .int .i64 (k : Int), .bool true, .pointer (some ⟨b, off + k * 45, none⟩), .agg cs.toArray, .agg cs.toArray, .int .i64 kd, z27, z28, z29, z30, z31, z32, z33, z34, z35, z36, z37, z38, z39, z40, z41, z42, z43, z44, z45, z46, z47, z48, z49, z50, z51, z52, z53, z54, z55, z56, z57, z58, z59, z60, z61, z62, z63, z64, z65, z66, z67, z68, z69, z70, z71, z72, z73, z74, z75, z76, z77, z78, z79, z80, z81, z82, z83, z84, z85, z86, z87, z88, z89, z90, z91, z92, z93, z94, z95, z96, z97, z98, z99, z100, z101, z102, z103, z104, z105, z106, z107, z108, z109, z110, z111, z112, z113, z114, z115, z116, z117, z118, z119, z120, z121, z122, z123, z124, z125, z126, z127, z128, z129, z130, z131, z132, z133, z134, z135, z136, z137, z138, z139, z140, z141, z142, z143, z144, z145, z146, z147, z148, z149, z150, z151, z152, z153, z154, z155, z156, z157, z158, z159, z160, z161, z162, z163, z164, z165, z166, z167, z168, z169, z170, z171, z172, z173, z174, z175, z176, z177, z178, z179, z180, z181, z182, z183, z184, z185, z186, z187, z188, z189, z190, z191, z192, z193, z194, z195, z196, z197, z198, z199, z200, z201, z202, z203, z204, z205, z206, z207, z208, z209, z210, z211, z212, z213, z214, z215, z216, z217, z218, z219, z220, z221, z222, z223, z224, z225, z226, z227, z228, z229, z230, z231, z232, z233, u234, u235, u236, u237, u238, u239, u240, u241, u242, u243, u244, u245, u246, u247, u248, u249, u250, u251, u252, u253, u254, u255, u256, u257, u258, u259, u260, u261, u262, u263, u264, u265, u266, u267, undef, undef, undef], []⟩ W) :
    Code.wp Try.prog ((Try.f4.body.bind (blkAt 2)).getD .skip) (Exit.then K Q) ⟨#[.slice (some ⟨b, off, none⟩) len cap, undef, u2, .pointer (some ⟨w.heap.size, 0, none⟩), .string t.A, .bool t.sh, .int .i64 t.s, undef, .pointer (some ⟨bx, 0, none⟩), u9, u10, u11, u12, u13, u14, u15, .pointer (some ⟨w.heap.size, 0, none⟩), .pointer (some ⟨w.heap.size, 0, none⟩), .bool false, .slice (some ⟨b, off, none⟩) len cap, .int .i64 (len : Int), .int .i64 (k : Int), .bool true, .pointer (some ⟨b, off + k * 45, none⟩), .agg cs.toArray, .agg cs.toArray, .int .i64 kd, u27, u28, u29, u30, u31, u32, u33, u34, u35, u36, u37, u38, u39, u40, u41, u42, u43, u44, u45, u46, u47, u48, u49, u50, u51, u52, u53, u54, u55, u56, u57, u58, u59, u60, u61, u62, u63, u64, u65, u66, u67, u68, u69, u70, u71, u72, u73, u74, u75, u76, u77, u78, u79, u80, u81, u82, u83, u84, u85, u86, u87, u88, u89, u90, u91, u92, u93, u94, u95, u96, u97, u98, u99, u100, u101, u102, u103, u104, u105, u106, u107, u108, u109, u110, u111, u112, u113, u114, u115, u116, u117, u118, u119, u120, u121, u122, u123, u124, u125, u126, u127, u128, u129, u130, u131, u132, u133, u134, u135, u136, u137, u138, u139, u140, u141, u142, u143, u144, u145, u146, u147, u148, u149, u150, u151, u152, u153, u154, u155, u156, u157, u158, u159, u160, u161, u162, u163, u164, u165, u166, u167, u168, u169, u170, u171, u172, u173, u174, u175, u176, u177, u178, u179, u180, u181, u182, u183, u184, u185, u186, u187, u188, u189, u190, u191, u192, u193, u194, u195, u196, u197, u198, u199, u200, u201, u202, u203, u204, u205, u206, u207, u208, u209, u210, u211, u212, u213, u214, u215, u216, u217, u218, u219, u220, u221, u222, u223, u224, u225, u226, u227, u228, u229, u230, u231, u232, u233, u234, u235, u236, u237, u238, u239, u240, u241, u242, u243, u244, u245, u246, u247, u248, u249, u250, u251, u252, u253, u254, u255, u256, u257, u258, u259, u260, u261, u262, u263, u264, u265, u266, u267, undef, undef, undef], []⟩ w5 := by
  by_cases k0 : kd = 0
  · exact arm0 k0 L5' B5' HC1' hn1 hn2 hp1 hp2 hxz hA hA1 hmeet hexit
  by_cases k1 : kd = 1
  · exact arm1 k1 L5' B5' HC1' hn1 hn2 hp1 hp2 hxz hA hA1 hmeet hexit
  by_cases k2 : kd = 2
  · exact arm2 k2 L5' B5' HC1' hn1 hn2 hp1 hp2 hxz hA hA1 hmeet hexit
  by_cases k3 : kd = 3
  · exact arm3 k3 L5' B5' HC1' hn1 hn2 hp1 hp2 hxz hA hA1 hmeet hexit
  by_cases hg : go? (lst t) t.sh t.c num mss
  · by_cases h0 : t.c = 0
    · exact arm5 k0 k1 k2 k3 hg h0 L5' B5' HC1' hn1 hn2 hp1 hp2 hxz hA hA1 hmeet hexit
    · exact arm6 k0 k1 k2 k3 hg h0 L5' B5' HC1' hn1 hn2 hp1 hp2 hxz hA hA1 hmeet hexit
  · exact arm4 k0 k1 k2 k3 hg L5' B5' HC1' hn1 hn2 hp1 hp2 hxz hA hA1 hmeet hexit
end Go.Proofs.Ythkmdonmbdncaaa
