/-
  Contracts of decimal, Print, Cut, number and Parse (package addr).
-/
import Derived.Test.YthdmbggpokaggaaDoorPfx
import Derived.Test.YthdmbggpokaggaaDoorShelf
import Derived.Test.YthdmbggpokaggaaDoorText
import Derived.Lib.ItoaMem
import Derived.Lib.IndexLaws
import Derived.Lib.AppendIntMem
import Derived.WalkSmall
namespace Go.Proofs.YthdmbggpokaggaaDoor
open Go.RowKit Go.Sort Go.Lib
set_option linter.unusedVariables false

/-- The table of powers of ten lies in its variable. -/
def Pow (w : World) : Prop := Lib.TabIs Tryd.prog w "internal/strconv.uint64pow10" .u64 Lib.pow10Tab

theorem holds_zero0 (w : World) (T : TypeId) (nd : Nat) (hs : nd ≤ 24) : Holds (fun (b : UInt8) => Value.int .u8 (b.toNat : Int)) (w.alloc (.cells zeros24 T)) w.heap.size 0 (Array.replicate nd (0 : UInt8)) := fun j hj => by
  have hj' : j < nd := by simpa using hj
  refine ⟨?_, World.frozen?_alloc_new _ _ _ _⟩
  rw [World.cell?_alloc_new, zeros24_at _ (by omega), getElem!_pos _ j hj]
  simp
theorem below_put (w : World) (o : Obj) (dk : Array UInt8) (k : Nat) : Below w.heap.size w ((putRow (fun (b : UInt8) => Value.int .u8 (b.toNat : Int)) (w.alloc o) w.heap.size 0 dk).drewN k) := by
  rw [alloc_eq_grow]
  obtain ⟨os', _, e⟩ := putRow_grow_new (fun (b : UInt8) => Value.int .u8 (b.toNat : Int)) w #[o] w.heap.size 0 dk (Nat.le_refl _)
  rw [e]
  exact below_drewN (B := w.heap.size) (by have := below_grow w.heap.size w (Nat.le_refl _) 0 os'; exact this) k

set_option maxHeartbeats 2000000 in
set_option maxRecDepth 100000 in
theorem fmt_big (u : Nat) (h1 : 100 ≤ u) (h2 : u ≤ 255) (w : World) (hp : Pow w) :
    Calls Tryd.prog 48 #[.int .u64 u, .int .i64 10] w fun e w' => e = .returned (.string ⟨(Lib.decDigits u).toArray⟩) ∧ Below w.heap.size w w' := by
  have hu1 : 1 ≤ u := by omega
  have hu64 : u < 18446744073709551616 := by omega
  have hnd20 : Lib.nDigits u ≤ 20 := by have := Lib.numDigits_eq u hu1 hu64; split at this <;> omega
  have hb3 : Lib.nDigits u ≤ 24 := by omega
  have hal : Tryd.prog.arrayLen 75 = 24 := by simp [Program.arrayLen, Tryd.underlying75]
  have hsl1 : ∀ W, (Instr.sliceAt 75 (.pointer (some ⟨w.heap.size, 0, none⟩)) none (some (.int .i64 (Lib.nDigits u : Int))) none).run Tryd.prog W = .ok (.slice (some ⟨w.heap.size, 0, none⟩) (Lib.nDigits u) 24) W := fun W => by
    rw [run_sliceAt_array_h W 75 ⟨w.heap.size, 0, none⟩ (by simp [Program.arrayLen, Program.elem, Tryd.underlying75]) .i64 (Lib.nDigits u : Int) (by omega) (by rw [hal]; omega)]
    go_simp
  have hH0 := holds_zero0 w 75 (Lib.nDigits u) (by omega)
  have hfmt := Tryd.internal_strconv_formatBase10 w.heap.size 0 24 u (Array.replicate (Lib.nDigits u) 0) (w.alloc (.cells Lib.zeros24 75)) hH0 (by rw [Array.size_replicate]; exact Lib.lt_pow_nDigits u) hu64 (by rw [Array.size_replicate]; omega)
  rw [Array.size_replicate] at hfmt
  have HH0 := Lib.hid hH0
  have HF := Lib.hid hfmt
  have HND : Hid (∀ o, Calls Tryd.prog 58 #[.int .u64 u] (w.alloc o) fun e w' => e = .returned (.int .i64 (Lib.nDigits u)) ∧ w' = w.alloc o) := fun o => Tryd.internal_strconv_numDigits u hu1 hu64 _ (Lib.tabIs_alloc hp _)
  clear hH0 hal hfmt
  go_enter Tryd.func48, Tryd.ntmps48
  go_wp2_with fail
  refine (HND.out _).mono ?_; rintro e w1 ⟨rfl, rfl⟩
  go_wp2_with fail
  refine HF.out.mono ?_
  rintro e w' ⟨rfl, k, v', dk, rfl, hF⟩
  have hcv : (convert 67 9 (.slice (some ⟨w.heap.size, 0, none⟩) (Lib.nDigits u) 24)).run Tryd.prog ((putRow (fun (b : UInt8) => Value.int .u8 (b.toNat : Int)) (w.alloc (.cells Lib.zeros24 75)) w.heap.size 0 dk).drewN k) = .ok (.string ⟨(Lib.decDigits u).toArray⟩) ((putRow (fun (b : UInt8) => Value.int .u8 (b.toNat : Int)) (w.alloc (.cells Lib.zeros24 75)) w.heap.size 0 dk).drewN k) := by
    have h := run_convert_bytes_back (P := Tryd.prog) ((putRow (fun (b : UInt8) => Value.int .u8 (b.toNat : Int)) (w.alloc (.cells Lib.zeros24 75)) w.heap.size 0 dk).drewN k) 67 9 5 ⟨w.heap.size, 0, none⟩ 24 (Lib.decDigits u) Tryd.underlying67 Tryd.underlying5 Tryd.underlying9 (fun j hj => by
      rw [Lib.row_is_numeral hF j hj, Lib.add_plain, World.cell?_drewN]
      exact cell?_putRow (fun (b : UInt8) => Value.int .u8 (b.toNat : Int)) _ w.heap.size 0 _ dk HH0.out (by rw [hF.size, Array.size_replicate]) j (by rw [hF.size]; rw [Lib.decDigits_length] at hj; exact hj))
    rw [Lib.decDigits_length] at h
    exact h
  go_wp2
  go_ret
  exact ⟨rfl, below_put _ _ _ _⟩
theorem Pow.keep {w w1 : World} (h : Pow w) (hb : Below w.heap.size w w1) : Pow w1 := tabBelow_of_tabIs h w1 hb
theorem ret_str {a b : ByteArray} (h : a = b) : Ending.returned (.string a) = .returned (.string b) := by rw [h]
theorem ba_app (l m : List UInt8) : (⟨l.toArray⟩ : ByteArray) ++ ⟨m.toArray⟩ = ⟨(l ++ m).toArray⟩ := by
  rw [ByteArray.mk_append_mk]

theorem fmt_any (u : Nat) (h : u ≤ 255) (w : World) (hp : Pow w) :
    Calls Tryd.prog 48 #[.int .u64 u, .int .i64 10] w fun e w' => e = .returned (.string ⟨(Lib.decDigits u).toArray⟩) ∧ Below w.heap.size w w' := by
  by_cases h1 : 100 ≤ u
  · exact fmt_big u h1 h w hp
  · have HS : Hid (∀ w', Calls Tryd.prog 57 #[.int .i64 u] w' fun e w'' => e = .returned (.string ⟨(Lib.decDigits u).toArray⟩) ∧ w'' = w') := fun w' => Tryd.internal_strconv_small u (by omega) w'
    clear hp
    go_enter Tryd.func48, Tryd.ntmps48
    go_wp2_with fail
    refine (HS.out _).mono ?_; rintro e w1 ⟨rfl, rfl⟩
    go_wp2
    go_ret
    exact ⟨rfl, Below.refl _ _⟩
theorem decimal_any (u : Nat) (h : u ≤ 255) (w : World) (hp : Pow w) :
    Calls Tryd.prog 27 #[.int .u32 u] w fun e w' => e = .returned (.string ⟨(Lib.decDigits u).toArray⟩) ∧ Below w.heap.size w w' := by
  have HS : Hid (∀ w', Pow w' → Calls Tryd.prog 48 #[.int .u64 u, .int .i64 10] w' fun e w'' => e = .returned (.string ⟨(Lib.decDigits u).toArray⟩) ∧ Below w'.heap.size w' w'') := fun w' h' => fmt_any u h w' h'
  have HP := Lib.hid hp
  clear hp
  go_enter Tryd.func27, Tryd.ntmps27
  go_wp2_with fail
  go_enter Tryd.func38, Tryd.ntmps38
  go_wp2_with fail
  refine (HS.out _ HP.out).mono ?_; rintro e w1 ⟨rfl, hb⟩
  go_wp2
  go_ret
  exact ⟨rfl, hb⟩

theorem dec_len (u : Nat) (h : u ≤ 255) : (Lib.decDigits u).length ≤ 3 := by
  have : ∀ n : Fin 256, (Lib.decDigits n.val).length ≤ 3 := by decide +kernel
  exact this ⟨u, by omega⟩
set_option maxHeartbeats 1000000 in
theorem print_any (a : Nat) (h : a < 4294967296) (w : World) (hp : Pow w) :
    Calls Tryd.prog 10 #[.int .u32 a] w fun e w' => e = .returned (.string ⟨(prtL a).toArray⟩) ∧ Below w.heap.size w w' := by
  have HS : Hid (∀ (q : Int) (u : Nat) w', q = (u : Int) → u ≤ 255 → Pow w' → Calls Tryd.prog 27 #[.int .u32 q] w' fun e w'' => e = .returned (.string ⟨(Lib.decDigits u).toArray⟩) ∧ Below w'.heap.size w' w'') := fun q u w' hq hu h' => by rw [hq]; exact decimal_any u hu w' h'
  have HA : Hid (∀ x : Nat, x < 4294967296 → bits BinOp.and IntKind.u32 (x : Int) 255 = ((x % 256 : Nat) : Int)) := fun x hx => by
    have := u32_and_nat x 255 hx (by omega)
    rw [show ((255 : Nat) : Int) = 255 from rfl] at this
    rw [this, show (255 : Nat) = 2 ^ 8 - 1 from rfl, Nat.and_two_pow_sub_one_eq_mod]
  have HP := Lib.hid hp
  clear hp
  have l0 := dec_len (a / 16777216) (by omega)
  have l1 := dec_len (a / 65536 % 256) (by omega)
  have l2 := dec_len (a / 256 % 256) (by omega)
  have l3 := dec_len (a % 256) (by omega)
  have HE : Hid ((⟨(prtL a).toArray⟩ : ByteArray) = ((((((⟨(Lib.decDigits (a / 16777216)).toArray⟩ : ByteArray) ++ ⟨#[46]⟩) ++ ⟨(Lib.decDigits (a / 65536 % 256)).toArray⟩) ++ ⟨#[46]⟩) ++ ⟨(Lib.decDigits (a / 256 % 256)).toArray⟩) ++ ⟨#[46]⟩) ++ ⟨(Lib.decDigits (a % 256)).toArray⟩) := by
    show _ = _
    rw [show (⟨#[46]⟩ : ByteArray) = ⟨[46].toArray⟩ from rfl]
    simp only [ba_app]
    unfold prtL
    simp
  go_enter Tryd.func10, Tryd.ntmps10
  go_wp2_with fail
  refine (HS.out _ (a / 16777216) _ (by omega) (by omega) HP.out).mono ?_; rintro e w1 ⟨rfl, hb1⟩
  have P1 : Hid (Pow w1) := HP.out.keep hb1
  have s1 := hb1.size
  go_wp2_with fail
  refine (HS.out _ (a / 65536 % 256) _ (by first | omega | exact (by have := HA.out (a / 65536) (by omega); simpa using this)) (by omega) P1.out).mono ?_; rintro e w2 ⟨rfl, hb2⟩
  have P2 : Hid (Pow w2) := P1.out.keep hb2
  have s2 := hb2.size
  go_wp2_with fail
  refine (HS.out _ (a / 256 % 256) _ (by first | omega | exact (by have := HA.out (a / 256) (by omega); simpa using this)) (by omega) P2.out).mono ?_; rintro e w3 ⟨rfl, hb3⟩
  have P3 : Hid (Pow w3) := P2.out.keep hb3
  have s3 := hb3.size
  go_wp2_with fail
  refine (HS.out _ (a % 256) _ (by first | omega | exact (by have := HA.out a (by omega); simpa using this)) (by omega) P3.out).mono ?_; rintro e w4 ⟨rfl, hb4⟩
  go_wp2
  go_ret
  exact ⟨ret_str HE.out.symm, ((hb1.trans (hb2.mono s1)).trans (hb3.mono (by omega))).trans (hb4.mono (by omega))⟩

theorem idx_cut (c : UInt8) (l : List UInt8) : (Lib.indexByte l c = -1 ∧ cutL c l = (l, [], false)) ∨ ∃ i : Nat, Lib.indexByte l c = (i : Int) ∧ i < l.length ∧ cutL c l = (l.take i, l.drop (i + 1), true) := by
  induction l with
  | nil => left; exact ⟨rfl, rfl⟩
  | cons b l ih =>
    unfold Lib.indexByte cutL
    by_cases hb : b = c
    · right; exact ⟨0, by simp [hb], by simp, by simp [hb]⟩
    · have hb' : (b == c) = false := by simpa using hb
      rcases ih with ⟨h1, h2⟩ | ⟨i, h1, h2, h3⟩
      · left; rw [h1, h2]; simp [hb]
      · right
        refine ⟨i + 1, ?_, by simpa using h2, ?_⟩
        · rw [h1, hb']
          simp only [Bool.false_eq_true, if_false]
          rw [if_neg (by simp)]; rfl
        · rw [h3]; simp [hb]
theorem ba_take (l : List UInt8) (i : Nat) : (⟨l.toArray⟩ : ByteArray).extract 0 i = ⟨(l.take i).toArray⟩ := by
  apply ByteArray.ext
  rw [ByteArray.data_extract]
  apply Array.toList_inj.1
  simp
theorem ba_drop (l : List UInt8) (i : Nat) : (⟨l.toArray⟩ : ByteArray).extract i l.length = ⟨(l.drop i).toArray⟩ := by
  apply ByteArray.ext
  rw [ByteArray.data_extract]
  apply Array.toList_inj.1
  simp
  exact List.take_of_length_le (by simp)
theorem ba_size (l : List UInt8) : (⟨l.toArray⟩ : ByteArray).size = l.length := by show l.toArray.size = _; simp

set_option maxHeartbeats 1000000 in
theorem cut_any (c : UInt8) (l : List UInt8) (w : World) (hl : l.length ≤ 281474976710656) :
    Calls Tryd.prog 36 #[.string ⟨l.toArray⟩, .string ⟨#[c]⟩] w fun e w' => e = .returned (.tuple #[.string ⟨(cutL c l).1.toArray⟩, .string ⟨(cutL c l).2.1.toArray⟩, .bool (cutL c l).2.2]) ∧ ∃ n, w' = w.drewN n := by
  have HI : Hid (∀ w', Calls Tryd.prog 44 #[.string ⟨l.toArray⟩, .string ⟨#[c]⟩] w' fun e w'' => e = .returned (.int .i64 (Lib.indexByte l c)) ∧ w'' = w') := fun w' => by
    have := Tryd.stringslite_Index_one ⟨l.toArray⟩ c w'
    simpa using this
  rcases idx_cut c l with ⟨h1, h2⟩ | ⟨i, h1, h2, h3⟩
  · rw [h1] at HI
    rw [h2]
    clear h1 h2
    go_enter Tryd.func36, Tryd.ntmps36
    go_wp2_with fail
    refine (HI.out _).mono ?_; rintro e w1 ⟨rfl, rfl⟩
    go_wp2
    go_ret3
    exact ⟨rfl, 0, rfl⟩
  · rw [h1] at HI
    rw [h3]
    clear h1 h3
    have c1 : (0 : Int) ≤ (i : Int) := by omega
    have c2 : (i : Int) < (l.length : Int) := by omega
    have z := ba_size l
    have hs1 : ∀ w', (Instr.slice 9 (.string ⟨l.toArray⟩) none (some (.int .i64 (i : Int))) none).run Tryd.prog w' = .ok (.string ⟨(l.take i).toArray⟩) w' := fun w' => by
      have := run_slice_string_h (P := Tryd.prog) w' 9 ⟨l.toArray⟩ Tryd.underlying9 .i64 (i : Int) (by omega) (by rw [z]; omega)
      rw [Int.toNat_natCast, ba_take] at this
      exact this
    have hs2 : ∀ w', (Instr.slice 9 (.string ⟨l.toArray⟩) (some (.int .i64 ((i : Int) + 1))) none none).run Tryd.prog w' = .ok (.string ⟨(l.drop (i + 1)).toArray⟩) w' := fun w' => by
      have := run_slice_string_l (P := Tryd.prog) w' 9 ⟨l.toArray⟩ Tryd.underlying9 .i64 ((i : Int) + 1) (by omega) (by rw [z]; omega)
      rw [show ((i : Int) + 1).toNat = i + 1 from by omega, z, ba_drop] at this
      exact this
    clear z
    generalize (l.take i) = A at *
    generalize (l.drop (i + 1)) = B at *
    go_enter Tryd.func36, Tryd.ntmps36
    go_wp2_with fail
    refine (HI.out _).mono ?_; rintro e w1 ⟨rfl, rfl⟩
    go_wp2
    go_quiet (fail)
    go_wp2
    go_ret3
    exact ⟨rfl, nq, rfl⟩
theorem cuts_any (c : UInt8) (l : List UInt8) (w : World) (hl : l.length ≤ 281474976710656) :
    Calls Tryd.prog 23 #[.string ⟨l.toArray⟩, .string ⟨#[c]⟩] w fun e w' => e = .returned (.tuple #[.string ⟨(cutL c l).1.toArray⟩, .string ⟨(cutL c l).2.1.toArray⟩, .bool (cutL c l).2.2]) ∧ ∃ n, w' = w.drewN n := by
  have HI : Hid (∀ w', Calls Tryd.prog 36 #[.string ⟨l.toArray⟩, .string ⟨#[c]⟩] w' fun e w'' => e = .returned (.tuple #[.string ⟨(cutL c l).1.toArray⟩, .string ⟨(cutL c l).2.1.toArray⟩, .bool (cutL c l).2.2]) ∧ ∃ n, w'' = w'.drewN n) := fun w' => cut_any c l w' hl
  generalize cutL c l = R at *
  obtain ⟨A, B, D⟩ := R
  go_enter Tryd.func23, Tryd.ntmps23
  go_wp2_with fail
  refine (HI.out _).mono ?_; rintro e w1 ⟨rfl, n, rfl⟩
  go_wp2
  go_ret3
  exact ⟨rfl, n, rfl⟩

theorem ba_index (l : List UInt8) (k : Nat) (h : k < l.length) (w : World) : (Instr.index 9 (.string ⟨l.toArray⟩) (.int .i64 (k : Int))).run Tryd.prog w = .ok (.int .u8 (l[k].toNat : Int)) w := by
  have := run_index_string (P := Tryd.prog) w 9 ⟨l.toArray⟩ .i64 (k : Int) Tryd.underlying9
  rw [dif_pos (by rw [ba_size]; omega)] at this
  simp only [Int.toNat_natCast] at this
  exact this
theorem ba_ne (l : List UInt8) (h : l ≠ []) : (⟨l.toArray⟩ : ByteArray).toList.isEmpty = false := by
  rw [List.isEmpty_eq_false_iff]
  intro h2
  have h3 := (toList_nil_iff_emptyBytes ⟨l.toArray⟩).1 h2
  have h4 : (⟨l.toArray⟩ : ByteArray).size = ByteArray.empty.size := by rw [h3]
  rw [ba_size] at h4
  exact h (List.length_eq_zero_iff.1 (by simpa using h4))

set_option maxHeartbeats 2000000 in
theorem number_any (most : Nat) (l : List UInt8) (w : World) (hl : l.length ≤ 281474976710656) (hm : most ≤ 255) :
    Calls Tryd.prog 24 #[.string ⟨l.toArray⟩, .int .u32 most] w fun e w' => e = .returned (.tuple #[.int .u32 (((numL most l).getD 0 : Nat) : Int), .bool (numL most l).isSome]) ∧ w' = w := by
  by_cases h0 : l = []
  · subst h0
    have hn : numL most [] = none := rfl
    rw [hn]
    go_enter Tryd.func24, Tryd.ntmps24
    go_wp2
    go_ret2
    exact ⟨rfl, rfl⟩
  · have hne := ba_ne l h0
    have hlen : 1 ≤ l.length := by cases l; exact absurd rfl h0; simp
    have hz := ba_size l
    have ix0 := ba_index l 0 (by omega)
    by_cases h1 : 1 < l.length ∧ l[0].toNat = 48
    · have hn : numL most l = none := by
        unfold numL
        rw [if_neg]
        unfold fine
        simp only [decide_eq_true_eq]
        rintro ⟨_, h⟩
        refine h ⟨h1.1, ?_⟩
        rw [List.head?_eq_getElem?, List.getElem?_eq_getElem (by omega)]
        congr 1
        exact UInt8.toNat_inj.1 h1.2
      rw [hn]
      obtain ⟨h2, h3⟩ := h1
      rw [h3] at ix0
      have h2' : (1 : Int) < (l.length : Int) := by omega
      have ix1 : ∀ w', (Instr.index 9 (.string ⟨l.toArray⟩) (.int .i64 0)).run Tryd.prog w' = .ok (.int .u8 48) w' := ix0
      clear ix0
      generalize (⟨l.toArray⟩ : ByteArray) = S at *
      go_enter Tryd.func24, Tryd.ntmps24
      go_wp2
      go_ret2
      exact ⟨rfl, rfl⟩
    · have hf : fine l = true := by
        unfold fine
        simp only [decide_eq_true_eq]
        refine ⟨h0, fun h => h1 ⟨h.1, ?_⟩⟩
        have h2 := h.2
        rw [List.head?_eq_getElem?, List.getElem?_eq_getElem (by omega)] at h2
        rw [Option.some.inj h2]; rfl
      have hn : numL most l = walkN most 0 l := by unfold numL; rw [if_pos hf]
      have hcase : ¬ (1 < (l.length : Int)) ∨ (1 < (l.length : Int) ∧ ((l[0].toNat : Int) == 48) = false) := by
        by_cases h2 : 1 < l.length
        · right; exact ⟨by omega, by simp; exact fun h => h1 ⟨h2, by omega⟩⟩
        · left; omega
      have IX : Hid (∀ (k : Nat) (hk : k < l.length) (w' : World), (Instr.index 9 (.string ⟨l.toArray⟩) (.int .i64 (k : Int))).run Tryd.prog w' = .ok (.int .u8 (l[k].toNat : Int)) w') := fun k hk w' => ba_index l k hk w'
      have ix1 : ∀ w', (Instr.index 9 (.string ⟨l.toArray⟩) (.int .i64 0)).run Tryd.prog w' = .ok (.int .u8 (l[0].toNat : Int)) w' := ix0
      have hb0 : l[0].toNat < 256 := l[0].toNat_lt
      rw [hn]
      clear ix0 hn hf h1
      generalize (⟨l.toArray⟩ : ByteArray) = S at *
      generalize hc0 : l[0].toNat = c0 at *
      clear hc0
      rcases hcase with hc | ⟨hc, hc2⟩
      all_goals
        go_enter Tryd.func24, Tryd.ntmps24
        go_wp2
        go_loop [6, 7] (fun n i => ∃ k m : Nat, k ≤ l.length ∧ i = .int .i64 k ∧ n = .int .u32 m ∧ m ≤ most ∧ Hid (walkN most m (l.drop k) = walkN most 0 l)) (fun _ i => l.length - (RowKit.intOf i).toNat)
        case atStart => exact ⟨0, 0, by omega, rfl, rfl, by omega, by show _ = _; simp⟩
        case round =>
          obtain ⟨k, m, hk, rfl, rfl, hmm, HW⟩ := hrel
          by_cases hlt : k < l.length
          · have ixk := IX.out k hlt
            have hd : l.drop k = l[k] :: l.drop (k + 1) := List.drop_eq_getElem_cons hlt
            have HW2 : Hid (walkN most 0 l = if isDig l[k] = true then (if most < m * 10 + dig l[k] then none else walkN most (m * 10 + dig l[k]) (l.drop (k + 1))) else none) := by
              show _ = _
              rw [← HW.out, hd, walkN]
            have hbk : l[k].toNat < 256 := l[k].toNat_lt
            have HD : Hid (isDig l[k] = decide (48 ≤ l[k].toNat ∧ l[k].toNat ≤ 57) ∧ dig l[k] = l[k].toNat - 48) := ⟨rfl, rfl⟩
            generalize isDig l[k] = I at *
            generalize dig l[k] = d at *
            generalize l[k].toNat = c at *
            clear hd
            by_cases hA : 48 ≤ c ∧ c ≤ 57
            · obtain ⟨hA1, hA2⟩ := hA
              have hI : I = true ∧ d = c - 48 := ⟨by rw [HD.out.1]; simp; omega, HD.out.2⟩
              by_cases hB : most < m * 10 + (c - 48)
              · have hw : walkN most 0 l = none := by rw [HW2.out, if_pos hI.1, hI.2, if_pos hB]
                rw [hw]
                have hBi : (most : Int) < (m : Int) * 10 + ((c : Int) - 48) := by omega
                clear hB hI HD HW2 HW
                go_wp2
                go_ret2
                exact ⟨rfl, rfl⟩
              · have HWn : Hid (walkN most (m * 10 + (c - 48)) (l.drop (k + 1)) = walkN most 0 l) := by
                  show _ = _
                  rw [HW2.out, if_pos hI.1, hI.2, if_neg hB]
                have hBi : ¬ ((most : Int) < (m : Int) * 10 + ((c : Int) - 48)) := by omega
                have HE : Hid ((m : Int) * 10 + ((c : Int) - 48) = ((m * 10 + (c - 48) : Nat) : Int)) := by show _ = _; omega
                clear hI HD HW2 HW
                go_wp2
                go_round
                case rel => exact ⟨k + 1, m * 10 + (c - 48), by omega, by go_num, by rw [HE.out], by omega, HWn⟩
                case measure => simp [RowKit.intOf]; omega
            · have hI : I = false := by rw [HD.out.1]; simp; omega
              have hw : walkN most 0 l = none := by rw [HW2.out, if_neg (by simp [hI])]
              rw [hw]
              have hAi : (c : Int) < 48 ∨ (48 ≤ (c : Int) ∧ 57 < (c : Int)) := by omega
              clear hA hI HD HW2 HW
              rcases hAi with hAi | ⟨hAi, hAj⟩
              all_goals
                go_wp2
                go_ret2
                exact ⟨rfl, rfl⟩
          · have hd : l.drop k = [] := List.drop_of_length_le (by omega)
            have hw : walkN most 0 l = some m := by rw [← HW.out, hd]; rfl
            rw [hw]
            go_wp2
            go_ret2
            exact ⟨rfl, rfl⟩
end Go.Proofs.YthdmbggpokaggaaDoor
