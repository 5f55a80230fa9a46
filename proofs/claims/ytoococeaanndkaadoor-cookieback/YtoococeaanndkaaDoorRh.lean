/-
  The document's Sip by contract.
-/
import Derived.Test.YtoococeaanndkaaDoorRs
namespace Go.Proofs.YtoococeaanndkaaDoor
open Go.RowKit
set_option linter.unusedVariables false
set_option linter.unusedSimpArgs false

theorem OB.new (x : Int) (w : World) : OB w.heap.size x (w.alloc (.cells #[.int .u64 x] 22)) := heap_alloc_new _ _
theorem OB.alloc {p : Nat} {x : Int} {w : World} (h : OB p x w) (o : Obj) : OB p x (w.alloc o) := (Below.heap_alloc _ _ _ h.lt).trans h
/-- The four, just made. -/
def boxes (s : Sp) (w : World) : World := (((w.alloc (.cells #[.int .u64 s.a] 22)).alloc (.cells #[.int .u64 s.b] 22)).alloc (.cells #[.int .u64 s.c] 22)).alloc (.cells #[.int .u64 s.d] 22)
theorem QB.new (s : Sp) (w : World) : QB w.heap.size s (boxes s w) := by
  have h1 : (w.alloc (.cells #[.int .u64 s.a] 22)).heap.size = w.heap.size + 1 := by simp
  have h2 : ((w.alloc (.cells #[.int .u64 s.a] 22)).alloc (.cells #[.int .u64 s.b] 22)).heap.size = w.heap.size + 2 := by simp
  have h3 : (((w.alloc (.cells #[.int .u64 s.a] 22)).alloc (.cells #[.int .u64 s.b] 22)).alloc (.cells #[.int .u64 s.c] 22)).heap.size = w.heap.size + 3 := by simp
  exact ⟨(((OB.new _ _).alloc _).alloc _).alloc _, h1 ▸ ((OB.new s.b _).alloc _).alloc _, h2 ▸ (OB.new s.c _).alloc _, h3 ▸ OB.new s.d _⟩
theorem boxes_below (s : Sp) (w : World) : Below w.heap.size w (boxes s w) :=
  ((((Below.refl _ _).alloc (Nat.le_refl _) _).alloc (by simp) _).alloc (by simp; omega) _).alloc (by simp; omega) _

theorem index_at (F : ByteArray) (n : Nat) (h : n < F.size) (q : Int) (hq : q = n) (w' : World) : (Instr.index 9 (.string F) (.int .i64 q)).run Tryd.prog w' = .ok (.int .u8 (F[n].toNat : Int)) w' := by
  subst hq
  have := run_index_string (P := Tryd.prog) w' 9 F .i64 (n : Int) Tryd.underlying9
  rw [dif_pos (by omega)] at this
  simpa using this
section
variable {k : Nat} {s : Sp} {W : World}
theorem QB.c0 (h : QB k s W) : W.cell? ⟨k, 0, none⟩ = some (.int .u64 s.a) := h.a.c0
theorem QB.c1 (h : QB k s W) : W.cell? ⟨k + 1, 0, none⟩ = some (.int .u64 s.b) := h.b.c0
theorem QB.c2 (h : QB k s W) : W.cell? ⟨k + 1 + 1, 0, none⟩ = some (.int .u64 s.c) := h.c.c0
theorem QB.c3 (h : QB k s W) : W.cell? ⟨k + 1 + 1 + 1, 0, none⟩ = some (.int .u64 s.d) := h.d.c0
theorem QB.f0 (h : QB k s W) : W.frozen? ⟨k, 0, none⟩ = false := h.a.free 0
theorem QB.f2 (h : QB k s W) : W.frozen? ⟨k + 1 + 1, 0, none⟩ = false := h.c.free 0
theorem QB.f3 (h : QB k s W) : W.frozen? ⟨k + 1 + 1 + 1, 0, none⟩ = false := h.d.free 0
end
set_option maxHeartbeats 4000000 in
theorem siphash_any (k0 k1 : Int) (s : ByteArray) (hs : s.size ≤ 281474976710600) (w : World) :
    Calls Tryd.prog 26 #[.int .u64 k0, .int .u64 k1, .string s] w fun e w' => e = .returned (.int .u64 (sip k0 k1 s.data.toList)) ∧ Below w.heap.size w w' := by
  have B0 : Hid (QB w.heap.size ((sp0 k0 k1).eat (full s).data.toList 0) (boxes (sp0 k0 k1) w)) := QB.new (sp0 k0 k1) w
  have K0 : Hid (Below w.heap.size w (boxes (sp0 k0 k1) w)) := boxes_below _ _
  have HC : Hid (∀ (t : Sp) (n : Nat) (W : World), n ≤ 4 → QB w.heap.size t W → Calls Tryd.prog 31 #[.int .i64 (n : Int), .pointer (some ⟨w.heap.size, 0, none⟩), .pointer (some ⟨w.heap.size + 1, 0, none⟩), .pointer (some ⟨w.heap.size + 1 + 1, 0, none⟩), .pointer (some ⟨w.heap.size + 1 + 1 + 1, 0, none⟩)] W fun e w' => e = .returned (.tuple #[]) ∧ QB w.heap.size (t.rnds n) w' ∧ Below w.heap.size W w') := fun t n W hn h => clo_any 0 w.heap.size t n hn W h
  have HW : Hid (boxes (sp0 k0 k1) w = ((((w.alloc (Obj.cells #[Value.int IntKind.u64 (bits BinOp.xor IntKind.u64 k0 8317987319222330741)] 22)).alloc (Obj.cells #[Value.int IntKind.u64 (bits BinOp.xor IntKind.u64 k1 7237128888997146477)] 22)).alloc (Obj.cells #[Value.int IntKind.u64 (bits BinOp.xor IntKind.u64 k0 7816392313619706465)] 22)).alloc (Obj.cells #[Value.int IntKind.u64 (bits BinOp.xor IntKind.u64 k1 8387220255154660723)] 22))) := rfl
  have HZ : Hid (full s = pad s (7 - s.size % 8) ++ one (s.size % 256)) := rfl
  have HF := Lib.hid (full_sip k0 k1 s)
  have hfs := full_size s
  go_enter Tryd.func26, Tryd.ntmps26
  go_wp2_with fail
  rw [← HW.out]
  clear HW
  generalize boxes (sp0 k0 k1) w = W0 at *
  go_loopw [2] (fun r W => ∃ j : Nat, j ≤ 7 - s.size % 8 ∧ r = .string (pad s j) ∧ QB w.heap.size ((sp0 k0 k1).eat (full s).data.toList 0) W ∧ Below w.heap.size w W) (fun r _ => s.size + 8 - (match r with | .string x => x.size | _ => 0))
  case atStart => exact ⟨0, Nat.zero_le _, by rw [pad_zero], B0.out, K0.out⟩
  case round =>
    obtain ⟨j, hj, rfl, hB, hK⟩ := hrel
    have B1 := Lib.hid hB
    have K1 := Lib.hid hK
    clear hB hK B0 K0
    have hps := pad_size s j
    by_cases hlt : j < 7 - s.size % 8
    · have d1 : (((pad s j).size : Int) % 8 == 7) = false := by simp; omega
      have HP : Hid (pad s j ++ one 0 = pad s (j + 1)) := pad_next s j
      have hps' := pad_size s (j + 1)
      have hsz : (pad s j).size + 1 ≤ 281474976710656 := by omega
      have HM : Hid (s.size + 8 - (pad s (j + 1)).size < s.size + 8 - (pad s j).size) := by show _ < _; omega
      clear hps hps'
      generalize hX : pad s j = X at *
      generalize hY : pad s (j + 1) = Y at *
      have hone := one_sz 0
      go_wp2_with fail
      refine (chr_any 0 _ rfl _ (by omega)).mono ?_; rintro e w1 ⟨rfl, hb1⟩
      have B2 := Lib.hid (B1.out.keep hb1)
      have K2 := Lib.hid (K1.out.trans (hb1.mono K1.out.size))
      clear hb1
      generalize one 0 = O at *
      go_wp2_with fail
      go_roundw
      case rel => exact ⟨j + 1, by omega, by rw [hY, ← HP.out], B2.out, K2.out⟩
      case measure => rw [HP.out]; exact HM.out
    · have e : j = 7 - s.size % 8 := by omega
      have d1 : (((pad s j).size : Int) % 8 == 7) = true := by simp; omega
      have hsz : (pad s j).size + 1 ≤ 281474976710656 := by omega
      rw [← e] at HZ
      clear e hj hlt hps
      generalize pad s j = X at *
      go_wp2_with fail
      refine (chr_any (s.size % 256) _ (by omega) _ (by omega)).mono ?_; rintro e w1 ⟨rfl, hb1⟩
      have B2 := Lib.hid (B1.out.keep hb1)
      have K2 := Lib.hid (K1.out.trans (hb1.mono K1.out.size))
      clear hb1 B1 K1
      have hone := one_sz (s.size % 256)
      generalize one (s.size % 256) = O at *
      go_wp2_with fail
      rw [← HZ.out]
      clear HZ hone
      have HF2 : Hid (∀ i : Nat, 8 * i = (full s).size → ((sp0 k0 k1).eat (full s).data.toList i).fin = sip k0 k1 s.data.toList) := by
        intro i hi
        have e : i = s.size / 8 + 1 := by omega
        rw [e]; exact HF.out
      clear HF
      have h8 : (full s).size % 8 = 0 := by omega
      have hb8 : (full s).size ≤ 281474976710700 := by omega
      clear hfs
      generalize full s = F at *
      go_loopw [13, 14, 15] (fun iv _ _ W => ∃ i : Nat, 8 * i ≤ F.size ∧ iv = .int .i64 ((8 * i : Nat) : Int) ∧ QB w.heap.size ((sp0 k0 k1).eat F.data.toList i) W ∧ Below w.heap.size w W) (fun iv _ _ _ => F.size - (intOf iv).toNat)
      case atStart => exact ⟨0, by omega, rfl, B2.out, K2.out⟩
      case round =>
        obtain ⟨i, hi, rfl, hB, hK⟩ := hrel
        have B3 := Lib.hid hB
        have K3 := Lib.hid hK
        clear hB hK B2 K2
        by_cases hlt2 : 8 * i < F.size
        · have hlt3 : 8 * i + 8 ≤ F.size := by omega
          have HE : Hid (((sp0 k0 k1).eat F.data.toList i).take (part F.data.toList (8 * i) 8 : Nat) = (sp0 k0 k1).eat F.data.toList (i + 1)) := rfl
          have hlt4 : ((8 * i : Nat) : Int) < (F.size : Int) := by omega
          generalize hI : 8 * i = I at *
          go_wp2_with fail
          go_loopw [14, 15] (fun m kv W => ∃ j : Nat, j ≤ 8 ∧ kv = .int .i64 ((j : Int) - 1) ∧ m = .int .u64 (part F.data.toList (I + j) (8 - j) : Nat) ∧ QB w.heap.size ((sp0 k0 k1).eat F.data.toList i) W ∧ Below w.heap.size w W) (fun _ kv _ => ((intOf kv) + 1).toNat)
          case atStart => exact ⟨8, by omega, rfl, by simp [part, num], B3.out, K3.out⟩
          case round =>
            obtain ⟨j, hj, rfl, rfl, hB, hK⟩ := hrel
            have B4 := Lib.hid hB
            have K4 := Lib.hid hK
            clear hB hK B3 K3
            cases j with
            | succ k =>
              have hk : I + k < F.size := by omega
              have ek : (((k + 1 : Nat) : Int) - 1) = (k : Int) := by omega
              rw [ek]
              have HP : Hid (bits .or .u64 (IntKind.u64.wrap (((part F.data.toList (I + (k + 1)) (8 - (k + 1)) : Nat) : Int) * 256)) ((F[I + k].toNat : Nat) : Int) = ((part F.data.toList (I + k) (8 - k) : Nat) : Int)) := by
                show _ = _
                rw [show 8 - k = (8 - (k + 1)) + 1 from by omega, part_next F _ _ hk, show I + (k + 1) = I + k + 1 from by omega]
                refine or_low _ _ (Nat.lt_of_lt_of_le (part_lt _ _ _) (Nat.pow_le_pow_right (by omega) (by omega))) F[I + k].toNat_lt
              have hix : ∀ w', (Instr.index 9 (.string F) (.int .i64 ((I : Int) + (k : Int)))).run Tryd.prog w' = .ok (.int .u8 (F[I + k].toNat : Int)) w' := fun w' => by
                exact index_at F (I + k) hk _ (by omega) w'
              have hb : F[I + k].toNat < 256 := F[I + k].toNat_lt
              generalize F[I + k].toNat = b at *
              generalize part F.data.toList (I + (k + 1)) (8 - (k + 1)) = p at *
              have hk0 : (0 : Int) ≤ (k : Int) := by omega
              go_wp2_with fail
              go_roundw
              case rel => exact ⟨k, by omega, by go_num, by rw [← HP.out], B4.out, K4.out⟩
              case measure => simp [intOf]
            | zero =>
              rw [show (((0 : Nat) : Int) - 1) = -1 from rfl, show I + 0 = I from rfl, show 8 - 0 = 8 from rfl]
              generalize hm : part F.data.toList I 8 = m at *
              generalize hT : (sp0 k0 k1).eat F.data.toList i = t at *
              have x3 := B4.out.c3
              have f3 := B4.out.f3
              have B5 := Lib.hid (B4.out.s3 (bits .xor .u64 t.d m))
              have K5 := Lib.hid (K4.out.setCell (p := ⟨w.heap.size + 1 + 1 + 1, 0, none⟩) (Nat.le_add_right _ 3) (.int .u64 (bits .xor .u64 t.d m)))
              have HT : Hid ({ (Sp.rnds { t with d := bits .xor .u64 t.d m } 2) with a := bits .xor .u64 (Sp.rnds { t with d := bits .xor .u64 t.d m } 2).a m } = (sp0 k0 k1).eat F.data.toList (i + 1)) := HE.out
              go_wp2_with fail
              refine (HC.out _ 2 _ (by omega) B5.out).mono ?_; rintro e w5 ⟨rfl, hB6, hK6⟩
              generalize Sp.rnds { t with d := bits .xor .u64 t.d m } 2 = t2 at *
              have B6 := Lib.hid hB6
              have K6 := Lib.hid (K5.out.trans hK6)
              clear hB6 hK6 B5 K5 x3 f3 B4 K4
              have x0 := B6.out.c0
              have f0 := B6.out.f0
              have B7 := Lib.hid (B6.out.s0 (bits .xor .u64 t2.a m))
              have K7 := Lib.hid (K6.out.setCell (p := ⟨w.heap.size, 0, none⟩) (Nat.le_refl _) (.int .u64 (bits .xor .u64 t2.a m)))
              go_wp2_with fail
              go_roundw
              case rel => exact ⟨i + 1, by omega, by rw [← hI]; go_num, by rw [← HT.out]; exact B7.out, K7.out⟩
              case measure => simp [intOf]; omega
        · have hF := Lib.hid (HF2.out i (by omega))
          have hlt4 : ¬ ((8 * i : Nat) : Int) < (F.size : Int) := by omega
          clear HF2
          generalize (sp0 k0 k1).eat F.data.toList i = t at *
          generalize 8 * i = I at *
          have x2 := B3.out.c2
          have f2 := B3.out.f2
          have B5 := Lib.hid (B3.out.s2 (bits .xor .u64 t.c 255))
          have K5 := Lib.hid (K3.out.setCell (p := ⟨w.heap.size + 1 + 1, 0, none⟩) (Nat.le_add_right _ 2) (.int .u64 (bits .xor .u64 t.c 255)))
          have HT : Hid (∀ u, u = Sp.rnds { t with c := bits .xor .u64 t.c 255 } 4 → bits .xor .u64 (bits .xor .u64 (bits .xor .u64 u.a u.b) u.c) u.d = sip k0 k1 s.data.toList) := by rintro u rfl; exact hF.out
          clear hF
          go_wp2_with fail
          refine (HC.out _ 4 _ (by omega) B5.out).mono ?_; rintro e w5 ⟨rfl, hB6, hK6⟩
          have HT2 := Lib.hid (HT.out _ rfl)
          generalize Sp.rnds { t with c := bits .xor .u64 t.c 255 } 4 = u at *
          have B6 := Lib.hid hB6
          have K6 := Lib.hid (K5.out.trans hK6)
          clear hB6 hK6 B5 K5 x2 f2 B3 K3 HT
          have x0 := B6.out.c0
          have x1 := B6.out.c1
          have x2 := B6.out.c2
          have x3 := B6.out.c3
          go_wp2_with fail
          go_ret
          exact ⟨ret_int HT2.out, K6.out⟩
end Go.Proofs.YtoococeaanndkaaDoor
