/-
  The head of a packet: contract of headOf.
-/
import Derived.Test.YtlkodoiiigndoaaHSt
namespace Go.Proofs.Ytlkodoiiigndoaa
open Go.RowKit
set_option linter.unusedVariables false
set_option linter.unusedSimpArgs false

theorem takeA {P : Program} {md : Region.Mode} {ops : Array Oper} {Q : Exit → Act → World → Prop} {i : Nat} {oi : Oper} {d : Option Tmp} {v : Value} {fuel : Nat} {listed : Array Bool} {a : Act} {w : World} (hi : ops[i]? = some oi) (hd : oi.dst = d)
    (hs : Region.noSelect ops = true) (hf : Region.free md ops listed i = true) (hr : (Region.ready md ops listed).contains i = true)
    (hQ : ∀ c a w, Q (.panic c) (a.put d v) w → Q (.panic c) a w) (hy : Yields P ops oi v a)
    (h : wpAny P md ops Q fuel (listed.setIfInBounds i true) (a.put d v) w) : wpAny P md ops Q (fuel + 1) listed a w := by
  subst hd
  exact wpAny_take hi hs hf hr hQ hy h

theorem wd_sz (n : Nat) : (wd n).size = 2 := rfl
theorem w4_sz (n : Nat) : (w4 n).size = 4 := by unfold w4; rw [ByteArray.size_append]; rfl
/-- What stands ahead of the check sum. -/
def pre (p : Pk) : List UInt8 := [69, 0] ++ (wd (20 + p.body.size)).data.toList ++ (wd p.id.toNat).data.toList ++ (wd (obits p)).data.toList ++ [UInt8.ofNat p.ttl.toNat, UInt8.ofNat p.proto.toNat]
/-- What stands behind it. -/
def post (p : Pk) : List UInt8 := (w4 p.src).data.toList ++ (w4 p.dst).data.toList
/-- The check sum. -/
def sm (p : Pk) : Nat := 65535 - Pm.fd (Pm.hv true (pre p ++ post p))
/-- The head. -/
def hd (p : Pk) : List UInt8 := pre p ++ (wd (sm p)).data.toList ++ post p
def hd0 (p : Pk) : List UInt8 := pre p ++ [0, 0] ++ post p

theorem twoN (n : Nat) (q : Int) (hq : q = n) (hn : n ≤ 65535) (w : World) :
    Calls Try.prog 29 #[.int .i64 q] w fun e w' => e = .returned (.string (wd n)) ∧ Below w.heap.size w w' := by
  subst hq
  have := two_any (n : Int) w (by omega) (by omega)
  rwa [show lo (n : Int) = n from by unfold lo; omega] at this

theorem HSt.set {w : World} {p : Pk} {l : List UInt8} {W : World} (h : HSt w p l W) (i : Nat) (b : UInt8) (v : Int) (hv : v = (b.toNat : Int)) : HSt w p (l.set i b) (W.setCell ⟨w.heap.size + 1 + 1, i, none⟩ (.int .u8 v)) := by
  subst hv
  have e := Joins.block_setCell (i := i) h.hh (.int .u8 (b.toNat : Int))
  refine ⟨(heap_setCell_other _ _ _ _ (by show _ ≠ w.heap.size + 1 + 1; omega)).trans h.hp, (heap_setCell_other _ _ _ _ (by show _ ≠ w.heap.size + 1 + 1; omega)).trans h.hr, ?_, h.bel.setCell (p := ⟨w.heap.size + 1 + 1, i, none⟩) (by show _ ≤ w.heap.size + 1 + 1; omega) _, by rw [List.length_set]; exact h.len⟩
  rw [e]
  simp [cb]
theorem HSt.cell {w : World} {p : Pk} {l : List UInt8} {W : World} (h : HSt w p l W) (i : Nat) (hi : i < 20) : ∃ v, W.cell? ⟨w.heap.size + 1 + 1, i, none⟩ = some v := by
  have e := Joins.cell_of_block h.hh i
  have hl := h.len
  rw [e]
  exact ⟨_, Array.getElem?_eq_getElem (by simp [cb_length, hl, hi])⟩
theorem HSt.free {w : World} {p : Pk} {l : List UInt8} {W : World} (h : HSt w p l W) (i : Nat) : W.frozen? ⟨w.heap.size + 1 + 1, i, none⟩ = false := Joins.unfrozen_of_block h.hh i
/-- A packet's cells, as a list. -/
abbrev pcl (p : Pk) : List Value := [.int .u32 (p.src : Int), .int .u32 (p.dst : Int), .int .i64 p.proto, .int .i64 p.ttl, .int .i64 p.id, .bool p.dont, .bool p.more, .int .i64 p.off, .string p.body]
theorem HSt.prange {w : World} {p : Pk} {l : List UInt8} {W : World} (h : HSt w p l W) : W.rangeAt w.heap.size 0 (pcl p) := by
  have hR := World.rangeAt_of_block h.hp 0 9
  exact hR
theorem HSt.there {w : World} {p : Pk} {l : List UInt8} {W : World} (h : HSt w p l W) : W.there (w.heap.size + 1) 0 20 := fun j hj => by
  rw [Nat.zero_add, Joins.cell_of_block h.hr j]
  exact ⟨by rw [Array.getElem?_eq_getElem (show j < z20.size from hj)]; rfl, Joins.unfrozen_of_block h.hr j⟩

theorem pre_len (p : Pk) : (pre p).length = 10 := rfl
theorem w4_data (n : Nat) : (w4 n).data.toList = [UInt8.ofNat (n / 65536 / 256), UInt8.ofNat (n / 65536), UInt8.ofNat (n % 65536 / 256), UInt8.ofNat (n % 65536)] := by
  unfold w4; rw [ByteArray.data_append, Array.toList_append]; rfl
def a1 (p : Pk) : List UInt8 := [69, 0] ++ (wd (20 + p.body.size)).data.toList ++ [0, 0, 0, 0, 0, 0, 0, 0, 0, 0, 0, 0, 0, 0, 0, 0]
def a2 (p : Pk) : List UInt8 := [69, 0] ++ (wd (20 + p.body.size)).data.toList ++ (wd p.id.toNat).data.toList ++ [0, 0, 0, 0, 0, 0, 0, 0, 0, 0, 0, 0, 0, 0]
def a3 (p : Pk) : List UInt8 := [69, 0] ++ (wd (20 + p.body.size)).data.toList ++ (wd p.id.toNat).data.toList ++ (wd (obits p)).data.toList ++ [0, 0, 0, 0, 0, 0, 0, 0, 0, 0, 0, 0]
def a5 (p : Pk) : List UInt8 := pre p ++ [0, 0, 0, 0, 0, 0, 0, 0, 0, 0]
def a7 (p : Pk) : List UInt8 := pre p ++ [0, 0] ++ (w4 p.src).data.toList ++ [0, 0, 0, 0]
theorem step1 (p : Pk) : l69.take 2 ++ (wd (20 + p.body.size)).data.toList ++ l69.drop (2 + (wd (20 + p.body.size)).size) = a1 p := rfl
theorem step2 (p : Pk) : (a1 p).take 4 ++ (wd p.id.toNat).data.toList ++ (a1 p).drop (4 + (wd p.id.toNat).size) = a2 p := rfl
theorem step3 (p : Pk) : (a2 p).take 6 ++ (wd (obits p)).data.toList ++ (a2 p).drop (6 + (wd (obits p)).size) = a3 p := rfl
theorem step5 (p : Pk) : ((a3 p).set 8 (UInt8.ofNat p.ttl.toNat)).set 9 (UInt8.ofNat p.proto.toNat) = a5 p := rfl
theorem step7 (p : Pk) : (a5 p).take 12 ++ (w4 p.src).data.toList ++ (a5 p).drop (12 + (w4 p.src).size) = a7 p := by
  rw [w4_sz, a7, w4_data]; rfl
theorem step8 (p : Pk) : (a7 p).take 16 ++ (w4 p.dst).data.toList ++ (a7 p).drop (16 + (w4 p.dst).size) = hd0 p := by
  rw [w4_sz, hd0, post, a7, w4_data, w4_data]; rfl
theorem step9 (p : Pk) : (hd0 p).take 10 ++ (wd (sm p)).data.toList ++ (hd0 p).drop (10 + (wd (sm p)).size) = hd p := by
  rw [wd_sz, hd0, hd, post, w4_data, w4_data]; rfl
theorem hd0_len (p : Pk) : (hd0 p).length = 20 := by rw [hd0, post, w4_data, w4_data]; rfl
theorem hd_len (p : Pk) : (hd p).length = 20 := by rw [hd, post, w4_data, w4_data]; rfl
theorem hcheck0 (p : Pk) (w : World) :
    Calls Try.prog 31 #[.agg (cb (hd0 p)).toArray] w fun e w' => e = .returned (.int .i64 (sm p : Int)) ∧ Below w.heap.size w w' := by
  have := hcheckL (hd0 p) (hd0_len p) w
  rwa [show hs (at20 (hd0 p)) = sm p from by
    unfold hs sm
    rw [hz_at _ (hd0_len p)]
    have e : (hd0 p).take 10 ++ [0, 0] ++ (hd0 p).drop 12 = pre p ++ [0, 0] ++ post p := by rw [hd0, post, w4_data, w4_data]; rfl
    rw [e, Pm.hv_append, Pm.hv_append, Pm.hv_append]
    have hl : (pre p ++ [0, 0]).length = 12 := rfl
    rw [hl, pre_len]
    simp [Pm.hv]] at this
theorem below_setCells {B b : Nat} {a W : World} (hb : Below B a W) (hB : B ≤ b) (vs : List Value) (o : Nat) : Below B a (W.setCells b o vs) := by
  induction vs generalizing W o with
  | nil => exact hb
  | cons v r ih => exact ih (hb.setCell (p := ⟨b, o, none⟩) hB v) (o + 1)
theorem HSt.copyTo {w : World} {p : Pk} {l : List UInt8} {W : World} (h : HSt w p l W) (o n : Nat) (s : ByteArray) (l' : List UInt8) (hn : s.size ≤ n) (ho : o + s.size ≤ 20) (he : l.take o ++ s.data.toList ++ l.drop (o + s.size) = l') :
    ∃ W', (Builtin.copy_ #[42, 9] 3 #[.slice (some ⟨w.heap.size + 1 + 1, o, none⟩) n n, .string s]).run Try.prog W = .ok (goInt s.size) W' ∧ HSt w p l' W' := by
  subst he
  exact h.copy o n s hn ho

set_option maxHeartbeats 4000000 in
theorem headOf_any (p : Pk) (w : World) (hb : ¬ bads p) (hs : p.body.size ≤ 1400) (hsrc : p.src < 4294967296) (hdst : p.dst < 4294967296) :
    Calls Try.prog 18 #[pv p] w fun e w' => e = .returned (.agg (cb (hd p)).toArray) ∧ Below w.heap.size w w' := by
  have hpr : 0 ≤ p.proto ∧ p.proto ≤ 255 := by unfold bads bad at hb; omega
  have httl : 0 ≤ p.ttl ∧ p.ttl ≤ 255 := by unfold bads bad at hb; omega
  have hid : 0 ≤ p.id ∧ p.id ≤ 65535 := by unfold bads bad at hb; omega
  have hoff : 0 ≤ p.off ∧ p.off ≤ 8191 := by unfold bads bad at hb; omega
  have hob : obits p ≤ 65535 := by unfold obits; split <;> split <;> omega
  have hw1 : IntKind.u8.wrap p.ttl = p.ttl := by rw [IntKind.wrap_u8]; omega
  have hw2 : IntKind.u8.wrap p.proto = p.proto := by rw [IntKind.wrap_u8]; omega
  have H3 : Hid (∀ q w', q = ((20 + p.body.size : Nat) : Int) → Calls Try.prog 29 #[.int .i64 q] w' fun e w'' => e = .returned (.string (wd (20 + p.body.size))) ∧ Below w'.heap.size w' w'') := fun q w' hq => twoN _ _ hq (by omega) w'
  have H4 : Hid (∀ w', Calls Try.prog 29 #[.int .i64 p.id] w' fun e w'' => e = .returned (.string (wd p.id.toNat)) ∧ Below w'.heap.size w' w'') := fun w' => twoN _ _ (by omega) (by omega) w'
  have H5 : Hid (∀ w', Calls Try.prog 30 #[pv p] w' fun e w'' => e = .returned (.int .i64 (obits p : Int)) ∧ Below w'.heap.size w' w'') := fun w' => obits_any p w' (by unfold bad; omega)
  have H6 : Hid (∀ w', Calls Try.prog 29 #[.int .i64 (obits p : Int)] w' fun e w'' => e = .returned (.string (wd (obits p))) ∧ Below w'.heap.size w' w'') := fun w' => twoN _ _ rfl hob w'
  have H7 : Hid (∀ w', Calls Try.prog 28 #[.int .u32 (p.src : Int)] w' fun e w'' => e = .returned (.string (w4 p.src)) ∧ Below w'.heap.size w' w'') := fun w' => four_any _ w' hsrc
  have H8 : Hid (∀ w', Calls Try.prog 28 #[.int .u32 (p.dst : Int)] w' fun e w'' => e = .returned (.string (w4 p.dst)) ∧ Below w'.heap.size w' w'') := fun w' => four_any _ w' hdst
  have H9 : Hid (∀ q w', q ≤ 65535 → Calls Try.prog 29 #[.int .i64 ((q : Nat) : Int)] w' fun e w'' => e = .returned (.string (wd q)) ∧ Below w'.heap.size w' w'') := fun q w' hq => twoN _ _ rfl hq w'
  have HU24 := Lib.hid Try.underlying24
  have HI24 : Hid ((Try.prog.info? 24).map (·.size) = some (pcl p).length) := info24
  have HU40 := Lib.hid Try.underlying40
  clear hb
  go_enter Try.func18, Try.ntmps18
  go_wp2
  have S0 := Lib.hid (HSt.new w p)
  generalize (((w.alloc (.cells (pc p) 24)).alloc (.cells z20 40)).alloc (.cells z69 40)) = W0 at *
  have x8 := S0.out.c8
  refine wp_region_any (by kernel_rfl) ?_
  change wpAny _ _ _ _ _ _ _ (World.drew _)
  refine takeA (i := 0) (d := some 5) (v := ?_) rfl rfl (by kernel_rfl) (by kernel_rfl) (by kernel_rfl) (fun _ _ _ h => h) (Or.inl ⟨by rfl, ?_⟩) ?_
  rotate_left
  · intro w'; go_simp; try with_reducible rfl
  simp only [Act.put, List.setIfInBounds_toArray, List.set_cons_zero, List.set_cons_succ]
  refine takeA (i := 1) (d := some 6) (v := ?_) rfl rfl (by kernel_rfl) (by kernel_rfl) (by kernel_rfl) (fun _ _ _ h => h) (Or.inl ⟨by rfl, ?_⟩) ?_
  rotate_left
  · intro w'; go_simp; try with_reducible rfl
  simp only [Act.put, List.setIfInBounds_toArray, List.set_cons_zero, List.set_cons_succ]
  refine wpAny_ready (rs := [2]) (by kernel_rfl) (by simp) ?_
  refine AllReady.cons rfl (fun K hK => ?_) AllReady.nil
  go_simp
  refine hK _ _ ?_
  clear hK K
  try simp only [Act.put, List.setIfInBounds_toArray, List.set_cons_zero, List.set_cons_succ]
  refine takeA (i := 3) (d := some 8) (v := ?_) rfl rfl (by kernel_rfl) (by kernel_rfl) (by kernel_rfl) (fun _ _ _ h => h) (Or.inl ⟨by rfl, ?_⟩) ?_
  rotate_left
  · intro w'; go_simp; try with_reducible rfl
  simp only [Act.put, List.setIfInBounds_toArray, List.set_cons_zero, List.set_cons_succ]
  refine takeA (i := 4) (d := some 9) (v := ?_) rfl rfl (by kernel_rfl) (by kernel_rfl) (by kernel_rfl) (fun _ _ _ h => h) (Or.inl ⟨by rfl, ?_⟩) ?_
  rotate_left
  · intro w'; go_simp; try with_reducible rfl
  simp only [Act.put, List.setIfInBounds_toArray, List.set_cons_zero, List.set_cons_succ]
  refine wpAny_ready (rs := [5]) (by kernel_rfl) (by simp) ?_
  refine AllReady.cons rfl (fun K hK => ?_) AllReady.nil
  go_simp
  refine (H3.out _ _ ?_).mono ?_
  · first | omega | (simp only [IntKind.wrap_i64]; omega)
  rintro e w1 ⟨rfl, hb1⟩
  obtain ⟨W1, hcp1, S1⟩ := (S0.out.drew.keep hb1).copyTo 2 18 (wd (20 + p.body.size)) _ (by rw [wd_sz]; omega) (by rw [wd_sz]; omega) (step1 p)
  have T1 := Lib.hid S1
  clear S1
  refine hK _ _ ?_
  clear hK K
  try simp only [Act.put, List.setIfInBounds_toArray, List.set_cons_zero, List.set_cons_succ]
  refine wpAny_ready (rs := [6]) (by kernel_rfl) (by simp) ?_
  refine AllReady.cons rfl (fun K hK => ?_) AllReady.nil
  go_simp
  refine hK _ _ ?_
  clear hK K
  try simp only [Act.put, List.setIfInBounds_toArray, List.set_cons_zero, List.set_cons_succ]
  refine wpAny_done (by kernel_rfl) ?_ _
  clear x8 hcp1 S0 hb1
  go_wp2
  have x4 := T1.out.c4
  refine wp_region_any (by kernel_rfl) ?_
  change wpAny _ _ _ _ _ _ _ (World.drew _)
  refine takeA (i := 0) (d := some 12) (v := ?_) rfl rfl (by kernel_rfl) (by kernel_rfl) (by kernel_rfl) (fun _ _ _ h => h) (Or.inl ⟨by rfl, ?_⟩) ?_
  rotate_left
  · intro w'; go_simp; try with_reducible rfl
  simp only [Act.put, List.setIfInBounds_toArray, List.set_cons_zero, List.set_cons_succ]
  refine takeA (i := 1) (d := some 13) (v := ?_) rfl rfl (by kernel_rfl) (by kernel_rfl) (by kernel_rfl) (fun _ _ _ h => h) (Or.inl ⟨by rfl, ?_⟩) ?_
  rotate_left
  · intro w'; go_simp; try with_reducible rfl
  simp only [Act.put, List.setIfInBounds_toArray, List.set_cons_zero, List.set_cons_succ]
  refine wpAny_ready (rs := [2]) (by kernel_rfl) (by simp) ?_
  refine AllReady.cons rfl (fun K hK => ?_) AllReady.nil
  go_simp
  refine hK _ _ ?_
  clear hK K
  try simp only [Act.put, List.setIfInBounds_toArray, List.set_cons_zero, List.set_cons_succ]
  refine wpAny_ready (rs := [3]) (by kernel_rfl) (by simp) ?_
  refine AllReady.cons rfl (fun K hK => ?_) AllReady.nil
  go_simp
  refine (H4.out _).mono ?_
  rintro e w2 ⟨rfl, hb2⟩
  obtain ⟨W2, hcp2, S2⟩ := (T1.out.drew.keep hb2).copyTo 4 16 (wd p.id.toNat) _ (by rw [wd_sz]; omega) (by rw [wd_sz]; omega) (step2 p)
  have T2 := Lib.hid S2
  clear S2
  refine hK _ _ ?_
  clear hK K
  try simp only [Act.put, List.setIfInBounds_toArray, List.set_cons_zero, List.set_cons_succ]
  refine wpAny_ready (rs := [4]) (by kernel_rfl) (by simp) ?_
  refine AllReady.cons rfl (fun K hK => ?_) AllReady.nil
  go_simp
  refine hK _ _ ?_
  clear hK K
  try simp only [Act.put, List.setIfInBounds_toArray, List.set_cons_zero, List.set_cons_succ]
  refine wpAny_done (by kernel_rfl) ?_ _
  clear x4 hcp2 T1 hb2
  go_wp2
  refine wp_region_any (by kernel_rfl) ?_
  change wpAny _ _ _ _ _ _ _ (World.drew _)
  refine takeA (i := 0) (d := some 17) (v := ?_) rfl rfl (by kernel_rfl) (by kernel_rfl) (by kernel_rfl) (fun _ _ _ h => h) (Or.inl ⟨by rfl, ?_⟩) ?_
  rotate_left
  · intro w'; go_simp; try with_reducible rfl
  simp only [Act.put, List.setIfInBounds_toArray, List.set_cons_zero, List.set_cons_succ]
  refine wpAny_ready (rs := [1]) (by kernel_rfl) (by simp) ?_
  refine AllReady.cons rfl (fun K hK => ?_) AllReady.nil
  rw [if_pos (by rfl)]
  refine wp_load_mid _ _ rfl _ _ rfl (pcl p) _ T2.out.drew.prange HU24.out rfl HI24.out ?_
  refine hK _ _ ?_
  clear hK K
  try simp only [Act.put, List.setIfInBounds_toArray, List.set_cons_zero, List.set_cons_succ]
  refine wpAny_ready (rs := [2]) (by kernel_rfl) (by simp) ?_
  refine AllReady.cons rfl (fun K hK => ?_) AllReady.nil
  go_simp
  refine (H5.out _).mono ?_
  rintro e v3 ⟨rfl, ha3⟩
  refine hK _ _ ?_
  clear hK K
  try simp only [Act.put, List.setIfInBounds_toArray, List.set_cons_zero, List.set_cons_succ]
  refine wpAny_ready (rs := [3]) (by kernel_rfl) (by simp) ?_
  refine AllReady.cons rfl (fun K hK => ?_) AllReady.nil
  go_simp
  refine (H6.out _).mono ?_
  rintro e w3 ⟨rfl, hb3⟩
  obtain ⟨W3, hcp3, S3⟩ := ((T2.out.drew.keep ha3).keep hb3).copyTo 6 14 (wd (obits p)) _ (by rw [wd_sz]; omega) (by rw [wd_sz]; omega) (step3 p)
  have T3 := Lib.hid S3
  clear S3
  refine hK _ _ ?_
  clear hK K
  try simp only [Act.put, List.setIfInBounds_toArray, List.set_cons_zero, List.set_cons_succ]
  refine wpAny_ready (rs := [4]) (by kernel_rfl) (by simp) ?_
  refine AllReady.cons rfl (fun K hK => ?_) AllReady.nil
  go_simp
  refine hK _ _ ?_
  clear hK K
  try simp only [Act.put, List.setIfInBounds_toArray, List.set_cons_zero, List.set_cons_succ]
  refine wpAny_done (by kernel_rfl) ?_ _
  clear hcp3 T2 ha3 hb3
  go_wp2
  have x2 := T3.out.c2
  have x3 := T3.out.c3
  obtain ⟨y8, k8⟩ := T3.out.cell 8 (by omega)
  obtain ⟨y9, k9⟩ := T3.out.cell 9 (by omega)
  have f8 := T3.out.free 8
  have f9 := T3.out.free 9
  have T4 := Lib.hid (T3.out.set 8 (UInt8.ofNat p.ttl.toNat) p.ttl (by rw [UInt8.toNat_ofNat']; omega))
  have T5 := Lib.hid (T4.out.set 9 (UInt8.ofNat p.proto.toNat) p.proto (by rw [UInt8.toNat_ofNat']; omega))
  have k9' : (W3.setCell ⟨w.heap.size + 1 + 1, 8, none⟩ (.int .u8 p.ttl)).cell? ⟨w.heap.size + 1 + 1, 9, none⟩ = some y9 := by rw [World.cell?_setCell_other (w := W3) (h := fun h => by injection h with _ h2; cases h2)]; exact k9
  refine wp_region_held_drew (S := fun w' => w'.cell? ⟨w.heap.size, 2, none⟩ = some (.int .i64 p.proto) ∧ w'.cell? ⟨w.heap.size, 3, none⟩ = some (.int .i64 p.ttl)) (by kernel_rfl) ⟨x2, x3⟩ (fun hHeld => ?_)
  refine takeH (i := 0) (d := some 22) (v := ?_) rfl rfl (by kernel_rfl) (by kernel_rfl) (by kernel_rfl) (fun _ _ _ h => h) (Or.inl ⟨by rfl, ?_⟩) hHeld ?_
  rotate_left
  · intro w' hSw; (try dsimp only at hSw); go_simp; try with_reducible rfl
  simp only [Act.put, List.setIfInBounds_toArray, List.set_cons_zero, List.set_cons_succ]
  refine takeH (i := 3) (d := some 25) (v := ?_) rfl rfl (by kernel_rfl) (by kernel_rfl) (by kernel_rfl) (fun _ _ _ h => h) (Or.inl ⟨by rfl, ?_⟩) hHeld ?_
  rotate_left
  · intro w' hSw; (try dsimp only at hSw); go_simp; try with_reducible rfl
  simp only [Act.put, List.setIfInBounds_toArray, List.set_cons_zero, List.set_cons_succ]
  refine takeH (i := 1) (d := some 23) (v := ?_) rfl rfl (by kernel_rfl) (by kernel_rfl) (by kernel_rfl) (fun _ _ _ h => h) (Or.inl ⟨by rfl, ?_⟩) hHeld ?_
  rotate_left
  · intro w' hSw; (try dsimp only at hSw); obtain ⟨s2, s3⟩ := hSw; go_simp; try with_reducible rfl
  simp only [Act.put, List.setIfInBounds_toArray, List.set_cons_zero, List.set_cons_succ]
  refine takeH (i := 4) (d := some 26) (v := ?_) rfl rfl (by kernel_rfl) (by kernel_rfl) (by kernel_rfl) (fun _ _ _ h => h) (Or.inl ⟨by rfl, ?_⟩) hHeld ?_
  rotate_left
  · intro w' hSw; (try dsimp only at hSw); obtain ⟨s2, s3⟩ := hSw; go_simp; try with_reducible rfl
  simp only [Act.put, List.setIfInBounds_toArray, List.set_cons_zero, List.set_cons_succ]
  refine takeH (i := 2) (d := some 24) (v := ?_) rfl rfl (by kernel_rfl) (by kernel_rfl) (by kernel_rfl) (fun _ _ _ h => h) (Or.inl ⟨by rfl, ?_⟩) hHeld ?_
  rotate_left
  · intro w' hSw; (try dsimp only at hSw); go_simp; try with_reducible rfl
  simp only [Act.put, List.setIfInBounds_toArray, List.set_cons_zero, List.set_cons_succ]
  refine takeH (i := 5) (d := some 27) (v := ?_) rfl rfl (by kernel_rfl) (by kernel_rfl) (by kernel_rfl) (fun _ _ _ h => h) (Or.inl ⟨by rfl, ?_⟩) hHeld ?_
  rotate_left
  · intro w' hSw; (try dsimp only at hSw); go_simp; try with_reducible rfl
  simp only [Act.put, List.setIfInBounds_toArray, List.set_cons_zero, List.set_cons_succ]
  refine takeH (i := 6) (d := some 28) (v := ?_) rfl rfl (by kernel_rfl) (by kernel_rfl) (by kernel_rfl) (fun _ _ _ h => h) (Or.inl ⟨by rfl, ?_⟩) hHeld ?_
  rotate_left
  · intro w' hSw; (try dsimp only at hSw); go_simp; try with_reducible rfl
  simp only [Act.put, List.setIfInBounds_toArray, List.set_cons_zero, List.set_cons_succ]
  refine wpAnyH_ready (rs := [7]) (by kernel_rfl) (by simp) ?_
  refine AllReadyH.cons rfl (fun K hK => ?_) AllReadyH.nil
  go_simp
  clear hHeld
  refine hK.out _ _ ⟨T4.out.c2, T4.out.c3⟩ (fun hHeld => ?_)
  clear hK K
  try simp only [Act.put, List.setIfInBounds_toArray, List.set_cons_zero, List.set_cons_succ]
  refine takeH (i := 8) (d := some 29) (v := ?_) rfl rfl (by kernel_rfl) (by kernel_rfl) (by kernel_rfl) (fun _ _ _ h => h) (Or.inl ⟨by rfl, ?_⟩) hHeld ?_
  rotate_left
  · intro w' hSw; (try dsimp only at hSw); go_simp; try with_reducible rfl
  simp only [Act.put, List.setIfInBounds_toArray, List.set_cons_zero, List.set_cons_succ]
  refine wpAnyH_ready (rs := [9]) (by kernel_rfl) (by simp) ?_
  refine AllReadyH.cons rfl (fun K hK => ?_) AllReadyH.nil
  go_simp
  clear hHeld
  refine hK.out _ _ ⟨T5.out.c2, T5.out.c3⟩ (fun hHeld => ?_)
  clear hK K
  try simp only [Act.put, List.setIfInBounds_toArray, List.set_cons_zero, List.set_cons_succ]
  refine wpAnyH_done (by kernel_rfl) ?_ _
  clear hHeld x2 x3 k8 k9 f8 f9 T3 T4 k9'
  rw [step5] at T5
  generalize (W3.setCell ⟨w.heap.size + 1 + 1, 8, none⟩ (.int .u8 p.ttl)).setCell ⟨w.heap.size + 1 + 1, 9, none⟩ (.int .u8 p.proto) = W5 at *
  go_wp2
  have x0 := T5.out.c0
  refine wp_region_any (by kernel_rfl) ?_
  change wpAny _ _ _ _ _ _ _ (World.drew _)
  refine takeA (i := 0) (d := some 30) (v := ?_) rfl rfl (by kernel_rfl) (by kernel_rfl) (by kernel_rfl) (fun _ _ _ h => h) (Or.inl ⟨by rfl, ?_⟩) ?_
  rotate_left
  · intro w'; go_simp; try with_reducible rfl
  simp only [Act.put, List.setIfInBounds_toArray, List.set_cons_zero, List.set_cons_succ]
  refine takeA (i := 1) (d := some 31) (v := ?_) rfl rfl (by kernel_rfl) (by kernel_rfl) (by kernel_rfl) (fun _ _ _ h => h) (Or.inl ⟨by rfl, ?_⟩) ?_
  rotate_left
  · intro w'; go_simp; try with_reducible rfl
  simp only [Act.put, List.setIfInBounds_toArray, List.set_cons_zero, List.set_cons_succ]
  refine wpAny_ready (rs := [2]) (by kernel_rfl) (by simp) ?_
  refine AllReady.cons rfl (fun K hK => ?_) AllReady.nil
  go_simp
  refine hK _ _ ?_
  clear hK K
  try simp only [Act.put, List.setIfInBounds_toArray, List.set_cons_zero, List.set_cons_succ]
  refine wpAny_ready (rs := [3]) (by kernel_rfl) (by simp) ?_
  refine AllReady.cons rfl (fun K hK => ?_) AllReady.nil
  go_simp
  refine (H7.out _).mono ?_
  rintro e w7 ⟨rfl, hb7⟩
  obtain ⟨W7, hcp7, S7⟩ := (T5.out.drew.drew.keep hb7).copyTo 12 8 (w4 p.src) _ (by rw [w4_sz]; omega) (by rw [w4_sz]; omega) (step7 p)
  have T7 := Lib.hid S7
  clear S7
  refine hK _ _ ?_
  clear hK K
  try simp only [Act.put, List.setIfInBounds_toArray, List.set_cons_zero, List.set_cons_succ]
  refine wpAny_ready (rs := [4]) (by kernel_rfl) (by simp) ?_
  refine AllReady.cons rfl (fun K hK => ?_) AllReady.nil
  go_simp
  refine hK _ _ ?_
  clear hK K
  try simp only [Act.put, List.setIfInBounds_toArray, List.set_cons_zero, List.set_cons_succ]
  refine wpAny_done (by kernel_rfl) ?_ _
  clear x0 hcp7 T5 hb7
  go_wp2
  have x1 := T7.out.c1
  refine wp_region_any (by kernel_rfl) ?_
  change wpAny _ _ _ _ _ _ _ (World.drew _)
  refine takeA (i := 0) (d := some 35) (v := ?_) rfl rfl (by kernel_rfl) (by kernel_rfl) (by kernel_rfl) (fun _ _ _ h => h) (Or.inl ⟨by rfl, ?_⟩) ?_
  rotate_left
  · intro w'; go_simp; try with_reducible rfl
  simp only [Act.put, List.setIfInBounds_toArray, List.set_cons_zero, List.set_cons_succ]
  refine takeA (i := 1) (d := some 36) (v := ?_) rfl rfl (by kernel_rfl) (by kernel_rfl) (by kernel_rfl) (fun _ _ _ h => h) (Or.inl ⟨by rfl, ?_⟩) ?_
  rotate_left
  · intro w'; go_simp; try with_reducible rfl
  simp only [Act.put, List.setIfInBounds_toArray, List.set_cons_zero, List.set_cons_succ]
  refine wpAny_ready (rs := [2]) (by kernel_rfl) (by simp) ?_
  refine AllReady.cons rfl (fun K hK => ?_) AllReady.nil
  go_simp
  refine hK _ _ ?_
  clear hK K
  try simp only [Act.put, List.setIfInBounds_toArray, List.set_cons_zero, List.set_cons_succ]
  refine wpAny_ready (rs := [3]) (by kernel_rfl) (by simp) ?_
  refine AllReady.cons rfl (fun K hK => ?_) AllReady.nil
  go_simp
  refine (H8.out _).mono ?_
  rintro e w8 ⟨rfl, hb8⟩
  obtain ⟨W8, hcp8, S8⟩ := (T7.out.drew.keep hb8).copyTo 16 4 (w4 p.dst) _ (by rw [w4_sz]; omega) (by rw [w4_sz]; omega) (step8 p)
  have T8 := Lib.hid S8
  clear S8
  refine hK _ _ ?_
  clear hK K
  try simp only [Act.put, List.setIfInBounds_toArray, List.set_cons_zero, List.set_cons_succ]
  refine wpAny_ready (rs := [4]) (by kernel_rfl) (by simp) ?_
  refine AllReady.cons rfl (fun K hK => ?_) AllReady.nil
  go_simp
  refine hK _ _ ?_
  clear hK K
  try simp only [Act.put, List.setIfInBounds_toArray, List.set_cons_zero, List.set_cons_succ]
  refine wpAny_done (by kernel_rfl) ?_ _
  clear x1 hcp8 T7 hb8
  have HC : Hid (∀ w', Calls Try.prog 31 #[.agg (cb (hd0 p)).toArray] w' fun e w'' => e = .returned (.int .i64 (sm p : Int)) ∧ Below w'.heap.size w' w'') := fun w' => hcheck0 p w'
  have HI40 : Hid ((Try.prog.info? 40).map (·.size) = some (cb (hd0 p)).length) := by show _ = _; rw [cb_length, T8.out.len]; exact info40
  have hsm : sm p ≤ 65535 := by unfold sm; omega
  go_wp2
  refine wp_region_any (by kernel_rfl) ?_
  change wpAny _ _ _ _ _ _ _ (World.drew _)
  refine takeA (i := 0) (d := some 40) (v := ?_) rfl rfl (by kernel_rfl) (by kernel_rfl) (by kernel_rfl) (fun _ _ _ h => h) (Or.inl ⟨by rfl, ?_⟩) ?_
  rotate_left
  · intro w'; go_simp; try with_reducible rfl
  simp only [Act.put, List.setIfInBounds_toArray, List.set_cons_zero, List.set_cons_succ]
  refine wpAny_ready (rs := [1]) (by kernel_rfl) (by simp) ?_
  refine AllReady.cons rfl (fun K hK => ?_) AllReady.nil
  rw [if_pos (by rfl)]
  refine wp_load_mid _ _ rfl _ _ rfl (cb (hd0 p)) _ T8.out.drew.range HU40.out rfl HI40.out ?_
  refine hK _ _ ?_
  clear hK K
  try simp only [Act.put, List.setIfInBounds_toArray, List.set_cons_zero, List.set_cons_succ]
  refine wpAny_ready (rs := [2]) (by kernel_rfl) (by simp) ?_
  refine AllReady.cons rfl (fun K hK => ?_) AllReady.nil
  go_simp
  refine (HC.out _).mono ?_
  rintro e v9 ⟨rfl, ha9⟩
  refine hK _ _ ?_
  clear hK K
  try simp only [Act.put, List.setIfInBounds_toArray, List.set_cons_zero, List.set_cons_succ]
  refine wpAny_ready (rs := [3]) (by kernel_rfl) (by simp) ?_
  refine AllReady.cons rfl (fun K hK => ?_) AllReady.nil
  go_simp
  refine (H9.out _ _ hsm).mono ?_
  rintro e w9 ⟨rfl, hb9⟩
  obtain ⟨W9, hcp9, S9⟩ := ((T8.out.drew.keep ha9).keep hb9).copyTo 10 10 (wd (sm p)) _ (by rw [wd_sz]; omega) (by rw [wd_sz]; omega) (step9 p)
  have T9 := Lib.hid S9
  clear S9
  refine hK _ _ ?_
  clear hK K
  try simp only [Act.put, List.setIfInBounds_toArray, List.set_cons_zero, List.set_cons_succ]
  refine wpAny_ready (rs := [4]) (by kernel_rfl) (by simp) ?_
  refine AllReady.cons rfl (fun K hK => ?_) AllReady.nil
  go_simp
  refine hK _ _ ?_
  clear hK K
  try simp only [Act.put, List.setIfInBounds_toArray, List.set_cons_zero, List.set_cons_succ]
  refine wpAny_done (by kernel_rfl) ?_ _
  clear hcp9 ha9 hb9 T8 HI40
  have HI40 : Hid ((Try.prog.info? 40).map (·.size) = some (cb (hd p)).length) := by show _ = _; rw [cb_length, hd_len]; exact info40
  have e9 : (cb (hd p)).toArray.size = 20 := by simp [cb_length, hd_len]
  have HTh : Hid (W9.there (w.heap.size + 1) 0 (cb (hd p)).toArray.size) := by show World.there _ _ _ (cb (hd p)).toArray.size; rw [e9]; exact T9.out.there
  have HTl : Hid (W9.there (w.heap.size + 1) 0 (cb (hd p)).length) := by show World.there _ _ _ (cb (hd p)).length; rw [cb_length, hd_len]; exact T9.out.there
  clear e9
  go_wp2_with (first | (refine wpList_load_mid rfl _ _ rfl _ _ rfl (cb (hd p)) _ T9.out.range HU40.out rfl HI40.out ?_) | (refine wpList_store_mid rfl _ _ _ rfl _ _ _ rfl rfl HTh.out HI40.out (all_oneCell_toArray (cb_one (hd p))) ?_))
  have hload : (loadVar 40 ⟨w.heap.size + 1, 0, none⟩).run Try.prog (W9.setCells (w.heap.size + 1) 0 (cb (hd p))) = .ok (.agg (cb (hd p)).toArray) (W9.setCells (w.heap.size + 1) 0 (cb (hd p))) := run_loadVar_mid _ _ _ 40 (cb (hd p)) _ (World.rangeAt_setCells_same _ _ _ _ HTl.out) HU40.out rfl HI40.out
  exact bodyPost_ret (v := .agg (cb (hd p)).toArray) (by simp [results, Try.results18, Act.put, asAddr, hload]) rfl ⟨rfl, below_setCells T9.out.bel (by omega) _ _⟩
end Go.Proofs.Ytlkodoiiigndoaa
