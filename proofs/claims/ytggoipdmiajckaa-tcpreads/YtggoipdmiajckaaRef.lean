/-
  Contracts of the document's answer's functions of sums: chr, num, big, Sum.
-/
import Derived.Test.YtggoipdmiajckaaSums
import Derived.Laws.IdiomStrings
import Derived.Deep.QuietTactic
import Derived.BigQuiet
namespace Go.Proofs.Ytggoipdmiajckaa
open Go.RowKit
set_option linter.unusedVariables false


theorem wrap_u64 (n : Int) : IntKind.u64.wrap n = n % 18446744073709551616 := by
  simp only [IntKind.wrap, IntKind.signed, IntKind.bits]
  simp

/-- 'string(b)' of a block of bytes that was just laid. -/
theorem conv_new (w : World) (l : List UInt8) (cap : Nat) (C : Array Value) (hC : C = (l.map fun b => Value.int .u8 (b.toNat : Int)).toArray) :
    (convert 44 9 (.slice (some ⟨w.heap.size, 0, none⟩) l.length cap)).run Try.prog (w.alloc (.cells C 5)) = .ok (.string ⟨l.toArray⟩) (w.alloc (.cells C 5)) := by
  refine run_convert_bytes_back _ 44 9 5 ⟨w.heap.size, 0, none⟩ cap l Try.underlying44 Try.underlying5 Try.underlying9 ?_
  intro j hj
  have := World.cell?_alloc_mark w C 5 (0, 0) j
  have ha : (⟨w.heap.size, 0, none⟩ : Addr).add j = ⟨w.heap.size, j, none⟩ := by
    simp only [Addr.add]; split
    · subst_vars; rfl
    · simp
  rw [ha]
  refine this.trans ?_
  subst hC
  simp [List.getElem?_eq_getElem hj]

/-- A word as two bytes. -/
def wd (n : Nat) : ByteArray := ⟨#[UInt8.ofNat (n / 256), UInt8.ofNat n]⟩
theorem wd_size (n : Nat) : (wd n).size = 2 := rfl
theorem wd_list (n : Nat) : (wd n).data.toList = [UInt8.ofNat (n / 256), UInt8.ofNat n] := rfl
theorem hv_wd (n : Nat) (h : n ≤ 65535) : Pm.hv true (wd n).data.toList = n := by
  rw [wd_list]; simp [Pm.hv]; omega

theorem chr_any (n : Nat) (w : World) (hn : n ≤ 255) :
    Calls Try.prog 23 #[.int .i64 n] w fun e w' => e = .returned (.string ⟨#[UInt8.ofNat n]⟩) ∧ Below w.heap.size w w' := by
  have hc := conv_new w [UInt8.ofNat n] 1 #[.int .u8 (n : Int)] (by
    simp only [List.map_cons, List.map_nil, UInt8.toNat_ofNat']
    rw [show ((n : Int)) = ((n % 2 ^ 8 : Nat) : Int) from by omega])
  simp only [List.length_cons, List.length_nil, Nat.zero_add] at hc
  go_enter Try.func23, Try.ntmps23
  go_wp2
  go_ret
  exact ⟨rfl, (Below.refl _ _).alloc (Nat.le_refl _) _⟩


theorem extract_list (s : ByteArray) (a b : Nat) : (s.extract a b).data.toList = (s.data.toList.take b).drop a := by
  rw [ByteArray.data_extract, Array.toList_extract]
  simp [List.drop_take]

theorem num_any (n : Nat) : ∀ (s : ByteArray) (w : World), s.size = n → (s.size : Int) ≤ 9223372036854775807 →
    Calls Try.prog 37 #[.string s] w fun e w' => e = .returned (.int .u64 (Pm.nv s.data.toList)) ∧ ∃ k, w' = w.drewN k := by
  induction n with
  | zero =>
    intro s w hn _
    have he : s = ByteArray.empty := by
      apply ByteArray.ext; exact Array.eq_empty_of_size_eq_zero hn
    subst he
    go_enter Try.func37, Try.ntmps37
    go_wp2
    go_ret
    exact ⟨rfl, 0, rfl⟩
  | succ n ih =>
    intro s w hn hs
    have hne : s.toList.isEmpty = false := by
      rw [List.isEmpty_eq_false_iff]
      intro h
      have := (toList_nil_iff_emptyBytes s).1 h
      rw [this] at hn; simp at hn
    have hlt : n < s.size := by omega
    have HN : Hid (Pm.nv s.data.toList = (Pm.nv (s.extract 0 n).data.toList * 256 + s[n].toNat) % 18446744073709551616) := by
      show _ = _
      rw [← Pm.nv_snoc, extract_list, List.drop_zero, ← take_snoc s n hlt, List.take_of_length_le (by simp; omega)]
    have HI : Hid (∀ w', Calls Try.prog 37 #[.string (s.extract 0 n)] w' fun e w'' => e = .returned (.int .u64 (Pm.nv (s.extract 0 n).data.toList)) ∧ ∃ k, w'' = w'.drewN k) := fun w' => ih (s.extract 0 n) w' (by simp; omega) (by simp; omega)
    clear ih
    have hsl : ∀ w', (Instr.slice 9 (.string s) none (some (.int .i64 n)) none).run Try.prog w' = .ok (.string (s.extract 0 n)) w' := fun w' => by
      have := run_slice_string_h (P := Try.prog) w' 9 s Try.underlying9 .i64 (n : Int) (by omega) (by omega)
      simpa using this
    have hix : ∀ w', (Instr.index 9 (.string s) (.int .i64 n)).run Try.prog w' = .ok (.int .u8 (s[n].toNat : Int)) w' := fun w' => by
      have := run_index_string (P := Try.prog) w' 9 s .i64 (n : Int) Try.underlying9
      rw [dif_pos (by omega)] at this
      simpa using this
    have hb : s[n].toNat < 256 := s[n].toNat_lt
    have ha := Pm.nv_lt (s.extract 0 n).data.toList
    generalize s[n].toNat = B at *
    generalize Pm.nv (s.extract 0 n).data.toList = A at *
    generalize Pm.nv s.data.toList = R at *
    go_enter Try.func37, Try.ntmps37
    go_wp2
    go_quiet ((go_at_call 37; exact Calls.quiet_of (HI.out _)))
    go_wp2
    go_ret
    exact ⟨ret_int (by rw [HN.out]; simp only [wrap_u64]; omega), nq, rfl⟩

set_option maxHeartbeats 400000 in
theorem big_any (m : Nat) : ∀ (n : Nat) (w : World), (n : Int) ≤ 18446744073709551615 → m ≤ 1000000 →
    Calls Try.prog 24 #[.int .u64 n, .int .i64 m] w fun e w' => e = .returned (.string ⟨(Pm.bb n m).toArray⟩) ∧ Below w.heap.size w w' := by
  induction m with
  | zero =>
    intro n w hn hm
    go_enter Try.func24, Try.ntmps24
    go_wp2
    go_ret
    exact ⟨rfl, Below.refl _ _⟩
  | succ m ih =>
    intro n w hn hm
    have HI : Hid (∀ w', Calls Try.prog 24 #[.int .u64 ((n : Int) / 256), .int .i64 m] w' fun e w'' => e = .returned (.string ⟨(Pm.bb (n / 256) m).toArray⟩) ∧ Below w'.heap.size w' w'') := fun w' => by
      have := ih (n / 256) w' (by omega) (by omega)
      rwa [show ((n / 256 : Nat) : Int) = (n : Int) / 256 from by omega] at this
    clear ih
    have hz : (((m : Int) + 1) == 0) = false := by simp; omega
    go_enter Try.func24, Try.ntmps24
    go_wp2_with fail
    refine (HI.out _).mono ?_
    rintro e w1 ⟨rfl, hb1⟩
    have hl := Pm.bb_length (n / 256) m
    have HB : Hid ((Pm.bb n (m + 1)).toArray = (Pm.bb (n / 256) m).toArray ++ #[UInt8.ofNat (n % 256)]) := by
      show _ = _
      simp [Pm.bb]
    generalize hG : (Pm.bb (n / 256) m).toArray = G at *
    have hsz : G.size = m := by rw [← hG]; simpa using hl
    clear hG hl HI
    go_wp2_with fail
    rw [show ((n : Int) % 256) = ((n % 256 : Nat) : Int) from by omega]
    refine (chr_any (n % 256) _ (by omega)).mono ?_
    rintro e w2 ⟨rfl, hb2⟩
    go_wp2
    go_ret
    refine ⟨?_, hb1.trans (hb2.mono hb1.size)⟩
    rw [HB.out]
    show Ending.returned (Value.string (⟨G⟩ ++ ⟨#[UInt8.ofNat (n % 256)]⟩)) = _
    rw [ByteArray.mk_append_mk]
    exact congrArg (fun a => Ending.returned (Value.string ⟨a⟩)) (by apply Array.toList_inj.1; simp)

theorem big_two (n : Nat) (w : World) (hn : n ≤ 65535) :
    Calls Try.prog 24 #[.int .u64 n, .int .i64 2] w fun e w' => e = .returned (.string (wd n)) ∧ Below w.heap.size w w' := by
  refine (big_any 2 n w (by omega) (by omega)).mono ?_
  rintro e w1 ⟨rfl, hb⟩
  refine ⟨?_, hb⟩
  have h1 : UInt8.ofNat (n % 256) = UInt8.ofNat n := by apply UInt8.toNat_inj.1; simp
  have h2 : UInt8.ofNat (n / 256 % 256) = UInt8.ofNat (n / 256) := by apply UInt8.toNat_inj.1; simp
  simp only [Pm.bb, List.nil_append, h1, h2]
  rfl

set_option maxHeartbeats 400000 in
theorem rsum_even (s : ByteArray) (w : World) (hs : s.size ≤ 281474976710656) (hev : s.size % 2 = 0) :
    Calls Try.prog 26 #[.string s] w fun e w' => e = .returned (.int .u16 (Pm.fd (Pm.hv true s.data.toList))) ∧ Below w.heap.size w w' := by
  have hz : (((s.size : Int) % 2) == 1) = false := by simp; omega
  go_enter Try.func26, Try.ntmps26
  go_wp2
  go_loopw [3, 4] (fun t i w' => ∃ k : Nat, k ≤ s.size ∧ k % 2 = 0 ∧ i = .int .i64 k ∧ t = .int .u64 (Pm.hv true (s.data.toList.take k)) ∧ Below w.heap.size w w') (fun _ i _ => s.size - (intOf i).toNat)
  case atStart => exact ⟨0, Nat.zero_le _, rfl, rfl, rfl, Below.refl _ _⟩
  case round =>
    obtain ⟨k, hk, hk2, rfl, rfl, hbel⟩ := hrel
    have hle := Pm.hv_le true (s.data.toList.take k)
    have hl : (s.data.toList.take k).length = k := by rw [List.length_take]; simp; omega
    rw [hl] at hle
    by_cases hlt : k < s.size
    · have hlt1 : k + 1 < s.size := by omega
      have HS : Hid (Pm.hv true (s.data.toList.take (k + 2)) = Pm.hv true (s.data.toList.take k) + (s[k].toNat * 256 + s[k + 1].toNat)) := by
        show _ = _
        have h1 := Pm.hv_snoc (s.data.toList.take k) s[k]
        rw [hl, ← take_snoc s k hlt, if_pos hk2] at h1
        have h2 := Pm.hv_snoc (s.data.toList.take (k + 1)) s[k + 1]
        have hl1 : (s.data.toList.take (k + 1)).length = k + 1 := by rw [List.length_take]; simp; omega
        rw [hl1, ← take_snoc s (k + 1) hlt1, if_neg (by omega)] at h2
        rw [show k + 2 = k + 1 + 1 from rfl]
        omega
      have HE : Hid ((s.extract k (k + 2)).data.toList = [s[k], s[k + 1]]) := by
        show _ = _
        rw [extract_list, take_snoc s (k + 1) hlt1, take_snoc s k hlt]
        simp [hl]
      have hb0 : s[k].toNat < 256 := s[k].toNat_lt
      have hb1 : s[k + 1].toNat < 256 := s[k + 1].toNat_lt
      clear hl
      generalize Pm.hv true (s.data.toList.take k) = T at *
      have hsl : ∀ w', (Instr.slice 9 (.string s) (some (.int .i64 (k : Int))) (some (.int .i64 ((k : Int) + 2))) none).run Try.prog w' = .ok (.string (s.extract k (k + 2))) w' := fun w' => by
        have := run_slice_string (P := Try.prog) w' 9 s .i64 .i64 (k : Int) ((k : Int) + 2) Try.underlying9 (by omega) (by omega) (by omega)
        rwa [show ((k : Int)).toNat = k from by omega, show ((k : Int) + 2).toNat = k + 2 from by omega] at this
      go_wp2_with fail
      refine (num_any 2 (s.extract k (k + 2)) _ (by simp; omega) (by simp; omega)).mono ?_
      rintro e w1 ⟨rfl, kd, rfl⟩
      rw [HE.out, Pm.nv_two]
      have hbB : s[k].toNat * 256 + s[k + 1].toNat ≤ 65535 := by omega
      generalize s[k].toNat * 256 + s[k + 1].toNat = B at *
      go_wp2
      go_roundw
      case rel => exact ⟨k + 2, by omega, by omega, by go_num, by rw [HS.out]; go_num, below_drewN hbel _⟩
      case measure => simp [intOf]; omega
    · have he : s.data.toList.take k = s.data.toList := List.take_of_length_le (by simp; omega)
      rw [he] at hle ⊢
      by_cases h0 : Pm.hv true s.data.toList = 0
      · rw [h0]
        go_wp2
        go_ret
        exact ⟨ret_int (by rw [h0]; rfl), hbel⟩
      · generalize hT : Pm.hv true s.data.toList = T at *
        have HT : Hid (Pm.hv true s.data.toList = T) := hT
        clear hT
        have hz2 : ((T : Int) == 0) = false := by simp; omega
        go_wp2
        go_ret
        exact ⟨ret_int (by rw [HT.out]; unfold Pm.fd; rw [if_neg h0]; omega), hbel⟩

theorem hv_pad (l : List UInt8) : Pm.hv true (l ++ [0]) = Pm.hv true l := by
  rw [Pm.hv_append]; simp [Pm.hv]

set_option maxHeartbeats 400000 in
theorem rsum_odd (s : ByteArray) (w : World) (hs : s.size < 281474976710656) (hodd : s.size % 2 = 1) :
    Calls Try.prog 26 #[.string s] w fun e w' => e = .returned (.int .u16 (Pm.fd (Pm.hv true s.data.toList))) ∧ Below w.heap.size w w' := by
  have hz : (((s.size : Int) % 2) == 1) = true := by simp; omega
  go_enter Try.func26, Try.ntmps26
  go_wp2_with fail
  refine (chr_any 0 _ (by omega)).mono ?_
  rintro e w1 ⟨rfl, hb1⟩
  have HV : Hid (Pm.hv true (s ++ ⟨#[0]⟩).data.toList = Pm.hv true s.data.toList) := by
    show _ = _
    have h1 : (s ++ ⟨#[0]⟩).data.toList = s.data.toList ++ [0] := by simp
    rw [h1, hv_pad]
  have hsz : (s ++ ⟨#[0]⟩).size = s.size + 1 := by rw [ByteArray.size_append]; rfl
  have hev : (s ++ ⟨#[0]⟩).size % 2 = 0 := by omega
  have hS : (s ++ ⟨#[0]⟩).size ≤ 281474976710656 := by omega
  clear hsz
  have hadd : ∀ w', (Op.stringOp .add s ⟨#[0]⟩).run Try.prog w' = .ok (.string (s ++ ⟨#[0]⟩)) w' := fun w' => run_string_add_sum w' _ _ (by show s.size + 1 ≤ _; omega)
  generalize s ++ ⟨#[0]⟩ = S at *
  go_wp2
  go_loopw [3, 4] (fun t i w' => ∃ k : Nat, k ≤ S.size ∧ k % 2 = 0 ∧ i = .int .i64 k ∧ t = .int .u64 (Pm.hv true (S.data.toList.take k)) ∧ Below w.heap.size w w') (fun _ i _ => S.size - (intOf i).toNat)
  case atStart => exact ⟨0, Nat.zero_le _, rfl, rfl, rfl, hb1⟩
  case round =>
    obtain ⟨k, hk, hk2, rfl, rfl, hbel⟩ := hrel
    have hle := Pm.hv_le true (S.data.toList.take k)
    have hl : (S.data.toList.take k).length = k := by rw [List.length_take]; simp; omega
    rw [hl] at hle
    by_cases hlt : k < S.size
    · have hlt1 : k + 1 < S.size := by omega
      have HS : Hid (Pm.hv true (S.data.toList.take (k + 2)) = Pm.hv true (S.data.toList.take k) + (S[k].toNat * 256 + S[k + 1].toNat)) := by
        show _ = _
        have h1 := Pm.hv_snoc (S.data.toList.take k) S[k]
        rw [hl, ← take_snoc S k hlt, if_pos hk2] at h1
        have h2 := Pm.hv_snoc (S.data.toList.take (k + 1)) S[k + 1]
        have hl1 : (S.data.toList.take (k + 1)).length = k + 1 := by rw [List.length_take]; simp; omega
        rw [hl1, ← take_snoc S (k + 1) hlt1, if_neg (by omega)] at h2
        rw [show k + 2 = k + 1 + 1 from rfl]
        omega
      have HE : Hid ((S.extract k (k + 2)).data.toList = [S[k], S[k + 1]]) := by
        show _ = _
        rw [extract_list, take_snoc S (k + 1) hlt1, take_snoc S k hlt]
        simp [hl]
      have hb0 : S[k].toNat < 256 := S[k].toNat_lt
      have hbb : S[k + 1].toNat < 256 := S[k + 1].toNat_lt
      clear hl
      generalize Pm.hv true (S.data.toList.take k) = T at *
      have hsl : ∀ w', (Instr.slice 9 (.string S) (some (.int .i64 (k : Int))) (some (.int .i64 ((k : Int) + 2))) none).run Try.prog w' = .ok (.string (S.extract k (k + 2))) w' := fun w' => by
        have := run_slice_string (P := Try.prog) w' 9 S .i64 .i64 (k : Int) ((k : Int) + 2) Try.underlying9 (by omega) (by omega) (by omega)
        rwa [show ((k : Int)).toNat = k from by omega, show ((k : Int) + 2).toNat = k + 2 from by omega] at this
      go_wp2_with fail
      refine (num_any 2 (S.extract k (k + 2)) _ (by simp; omega) (by simp; omega)).mono ?_
      rintro e w1 ⟨rfl, kd, rfl⟩
      rw [HE.out, Pm.nv_two]
      have hbB : S[k].toNat * 256 + S[k + 1].toNat ≤ 65535 := by omega
      generalize S[k].toNat * 256 + S[k + 1].toNat = B at *
      go_wp2
      go_roundw
      case rel => exact ⟨k + 2, by omega, by omega, by go_num, by rw [HS.out]; go_num, below_drewN hbel _⟩
      case measure => simp [intOf]; omega
    · have he : S.data.toList.take k = S.data.toList := List.take_of_length_le (by simp; omega)
      rw [he] at hle ⊢
      by_cases h0 : Pm.hv true S.data.toList = 0
      · rw [h0]
        go_wp2
        go_ret
        exact ⟨ret_int (by rw [← HV.out, h0]; rfl), hbel⟩
      · generalize hT : Pm.hv true S.data.toList = T at *
        have HT : Hid (Pm.hv true S.data.toList = T) := hT
        clear hT
        have hz2 : ((T : Int) == 0) = false := by simp; omega
        go_wp2
        go_ret
        exact ⟨ret_int (by rw [← HV.out]; unfold Pm.fd; rw [if_neg h0]; omega), hbel⟩


theorem rsum_any (s : ByteArray) (w : World) (hs : s.size < 281474976710656) :
    Calls Try.prog 26 #[.string s] w fun e w' => e = .returned (.int .u16 (Pm.fd (Pm.hv true s.data.toList))) ∧ Below w.heap.size w w' := by
  by_cases hev : s.size % 2 = 0
  · exact rsum_even s w (by omega) hev
  · exact rsum_odd s w hs (by omega)

theorem hv_cat (a b : ByteArray) (h : a.size % 2 = 0) : Pm.hv true (a ++ b).data.toList = Pm.hv true a.data.toList + Pm.hv true b.data.toList := by
  have h1 : (a ++ b).data.toList = a.data.toList ++ b.data.toList := by simp
  have h2 : a.data.toList.length % 2 = 0 := by simpa using h
  rw [h1, Pm.hv_append, if_pos h2]
end Go.Proofs.Ytggoipdmiajckaa
