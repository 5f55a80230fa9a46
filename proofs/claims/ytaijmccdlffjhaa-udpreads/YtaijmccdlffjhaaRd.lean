/-
  Contract of Read (package udp).
-/
import Derived.Test.YtaijmccdlffjhaaFlt
import Derived.Deep.CutRange
namespace Go.Proofs.Ytaijmccdlffjhaa
open Go.RowKit
set_option linter.unusedVariables false
set_option linter.unusedSimpArgs false

/-- The cells of a datagram, as a list. -/
abbrev gcl (g : Gr) : List Value := [.int .u32 (g.sa : Int), .int .i64 g.sp, .int .u32 (g.da : Int), .int .i64 g.dp, .string g.body]
abbrev gzc : Array Value := #[.int .u32 0, .int .i64 0, .int .u32 0, .int .i64 0, .string ⟨#[]⟩]
theorem info26 : (Try.prog.info? 26).map (·.size) = some 5 := by kernel_rfl
theorem gc_one (g : Gr) : (gc g).all (·.oneCell') = true := by
  refine all_oneCell_toArray (cs := gcl g) ?_
  intro v hv
  simp only [List.mem_cons, List.not_mem_nil, or_false] at hv
  rcases hv with rfl | rfl | rfl | rfl | rfl <;> rfl
theorem GB.there {b : Nat} {g : Gr} {W : World} (h : GB b g W) : W.there b 0 5 := fun j hj => by
  rw [Nat.zero_add, Joins.cell_of_block h j]
  exact ⟨by rw [Array.getElem?_eq_getElem (show j < (gc g).size from hj)]; rfl, Joins.unfrozen_of_block h j⟩
theorem GB.range {b : Nat} {g : Gr} {W : World} (h : GB b g W) : W.rangeAt b 0 (gcl g) := World.rangeAt_of_block h 0 5
theorem GB.set1 {b : Nat} {C : Array Value} {W : World} (h : W.heap[b]? = some (.cells C 26 (0, 0))) (i : Nat) (v : Value) : (W.setCell ⟨b, i, none⟩ v).heap[b]? = some (.cells (C.setIfInBounds i v) 26 (0, 0)) := Joins.block_setCell (i := i) h v
theorem GB.put {b : Nat} {g : Gr} {W : World} (h : GB b g W) (q : Gr) : GB b q (W.setCells b 0 (gcl q)) := by
  have h1 := GB.set1 h 0 (.int .u32 (q.sa : Int))
  have h2 := GB.set1 h1 1 (.int .i64 q.sp)
  have h3 := GB.set1 h2 2 (.int .u32 (q.da : Int))
  have h4 := GB.set1 h3 3 (.int .i64 q.dp)
  exact GB.set1 h4 4 (.string q.body)
theorem GB.set1o {b k : Nat} {g : Gr} {W : World} (h : GB b g W) (hk : b ≠ k) (i : Nat) (v : Value) : GB b g (W.setCell ⟨k, i, none⟩ v) := (heap_setCell_other _ _ _ _ (by exact hk)).trans h
theorem GB.setOther {b k : Nat} {g : Gr} {W : World} (h : GB b g W) (hk : b ≠ k) (l : List Value) (o : Nat := 0) : GB b g (W.setCells k o l) := by
  induction l generalizing W o with
  | nil => exact h
  | cons v r ih => exact ih (h.set1o hk o v) (o + 1)
theorem below_setCells {B b : Nat} {a W : World} (hb : Below B a W) (hB : B ≤ b) (vs : List Value) (o : Nat) : Below B a (W.setCells b o vs) := by
  induction vs generalizing W o with
  | nil => exact hb
  | cons v r ih => exact ih (hb.setCell (p := ⟨b, o, none⟩) hB v) (o + 1)
/-- What is told out of a cell of the call's own. -/
theorem told (W : World) (b : Nat) (p q : Gr) (h : GB b p W) : (loadVar 26 ⟨b, 0, none⟩).run Try.prog (W.setCells b 0 (gcl q)) = .ok (gv q) (W.setCells b 0 (gcl q)) :=
  run_loadVar_mid _ _ _ 26 (gcl q) _ (World.rangeAt_setCells_same _ _ _ _ h.there) Try.underlying26 rfl info26

/-- The datagram that a text says. -/
def rg (src dst : Nat) (s : ByteArray) : Gr := ⟨src, (tw s 0 : Int), dst, (tw s 2 : Int), s.extract 8 s.size⟩
/-- What is wrong with a text. -/
def rerr (src dst : Nat) (s : ByteArray) : Int := if flt src dst s = 0 then gchk (rg src dst s) else flt src dst s
/-- What Read tells. -/
def rres (src dst : Nat) (s : ByteArray) : Gr := if rerr src dst s = 0 then rg src dst s else gz

theorem read_flt (src dst : Nat) (s : ByteArray) (w : World) (h1 : src < 4294967296) (h2 : dst < 4294967296) (hs : s.size ≤ 281474976710656) (hf : flt src dst s ≠ 0) :
    Calls Try.prog 11 #[.int .u32 (src : Int), .int .u32 (dst : Int), .string s] w fun e w' => e = .returned (.tuple #[gv gz, .int .i64 (flt src dst s)]) ∧ Below w.heap.size w w' := by
  have HF : Hid (∀ w', Calls Try.prog 20 #[.int .u32 (src : Int), .int .u32 (dst : Int), .string s] w' fun e w'' => e = .returned (.int .i64 (flt src dst s)) ∧ Below w'.heap.size w' w'') := fun w' => flt_any src dst s w' h1 h2 hs
  have b0 : Below w.heap.size w (w.alloc (.cells gzc 26)) := (Below.refl _ _).alloc (Nat.le_refl _) _
  have P0 : Hid (GB w.heap.size gz (w.alloc (.cells gzc 26))) := GB.new w gz
  generalize flt src dst s = F at *
  have hne : (F != 0) = true := by simpa using hf
  go_enter Try.func11, Try.ntmps11
  go_wp2_with fail
  refine (HF.out _).mono ?_; rintro e w1 ⟨rfl, hb1⟩
  have P1 := Lib.hid (P0.out.keep hb1)
  have b1 := b0.trans (hb1.mono (by simp))
  go_wp2_with (refine wpList_store_mid rfl _ _ _ rfl _ _ (gc gz) rfl rfl P1.out.there info26 (gc_one gz) ?_)
  exact bodyPost_ret (v := .tuple #[gv gz, .int .i64 F]) (by simp [results, Try.results11, Act.put, asAddr, told w1 w.heap.size gz gz P1.out]) rfl ⟨rfl, below_setCells b1 (Nat.le_refl _) _ _⟩

set_option maxHeartbeats 2000000 in
theorem read_go (src dst : Nat) (s : ByteArray) (w : World) (h1 : src < 4294967296) (h2 : dst < 4294967296) (h8 : 8 ≤ s.size) (hs : s.size ≤ 281474976710656) (hf : flt src dst s = 0) :
    Calls Try.prog 11 #[.int .u32 (src : Int), .int .u32 (dst : Int), .string s] w fun e w' => e = .returned (.tuple #[gv (if gchk (rg src dst s) = 0 then rg src dst s else gz), .int .i64 (gchk (rg src dst s))]) ∧ Below w.heap.size w w' := by
  have HF : Hid (∀ w', Calls Try.prog 20 #[.int .u32 (src : Int), .int .u32 (dst : Int), .string s] w' fun e w'' => e = .returned (.int .i64 0) ∧ Below w'.heap.size w' w'') := fun w' => by
    have := flt_any src dst s w' h1 h2 hs
    rwa [hf] at this
  have HX : Hid (∀ w', Calls Try.prog 21 #[.string s, .int .i64 0] w' fun e w'' => e = .returned (.int .i64 (tw s 0 : Int)) ∧ Below w'.heap.size w' w'') := fun w' => twoAt_any s 0 0 w' rfl (by omega) hs
  have HY : Hid (∀ w', Calls Try.prog 21 #[.string s, .int .i64 2] w' fun e w'' => e = .returned (.int .i64 (tw s 2 : Int)) ∧ Below w'.heap.size w' w'') := fun w' => twoAt_any s 2 2 w' rfl (by omega) hs
  have s2 : ∀ w', (Instr.slice 9 (.string s) (some (.int .i64 8)) none none).run Try.prog w' = .ok (.string (s.extract 8 s.size)) w' := fun w' => by
    have := run_slice_string_l (P := Try.prog) w' 9 s Try.underlying9 .i64 8 (by omega) (by omega)
    simpa using this
  have HL : Hid (∀ w', Calls Try.prog 22 #[.string (s.extract 8 s.size)] w' fun e w'' => e = .returned (.string (s.extract 8 s.size)) ∧ Below w'.heap.size w' w'') := fun w' => clone_any _ w' (by simp; omega)
  have HC : Hid (∀ w', Calls Try.prog 9 #[gv (rg src dst s)] w' fun e w'' => e = .returned (.int .i64 (gchk (rg src dst s))) ∧ Below w'.heap.size w' w'') := fun w' => gchk_any _ w'
  have b0 : Below w.heap.size w (w.alloc (.cells gzc 26)) := (Below.refl _ _).alloc (Nat.le_refl _) _
  have P0 : Hid (GB w.heap.size gz (w.alloc (.cells gzc 26))) := GB.new w gz
  clear hf
  generalize gchk (rg src dst s) = C at *
  go_enter Try.func11, Try.ntmps11
  go_wp2_with fail
  refine (HF.out _).mono ?_; rintro e w1 ⟨rfl, hb1⟩
  have P_a := Lib.hid (P0.out.keep hb1)
  have b_a : Below w.heap.size w w1.drew := (b0.trans (hb1.mono (by simp))).drew
  replace P_a := Lib.hid P_a.out.drew
  clear b0 P0 hb1
  go_wp2_with fail
  go_cut [9] from 19 to 30 (fun v wc => ∃ n, v = .pointer (some ⟨n, 0, none⟩) ∧ GB n (rg src dst s) wc ∧ GB w.heap.size gz wc ∧ n ≠ w.heap.size ∧ Below w.heap.size w wc)
  case first =>
    refine wp_region_any (by kernel_rfl) ?_
    change wpAny _ _ _ _ _ _ _ (World.drew _)
    refine takeA (i := 0) (d := some 19) (v := ?_) rfl rfl (by kernel_rfl) (by kernel_rfl) (by kernel_rfl) (fun _ _ _ h => h) (Or.inl ⟨by rfl, ?_⟩) ?_
    rotate_left
    · intro w'; go_simp; try with_reducible rfl
    simp only [Act.put, List.setIfInBounds_toArray, List.set_cons_zero, List.set_cons_succ]
    refine takeA (i := 1) (d := some 20) (v := ?_) rfl rfl (by kernel_rfl) (by kernel_rfl) (by kernel_rfl) (fun _ _ _ h => h) (Or.inl ⟨by rfl, ?_⟩) ?_
    rotate_left
    · intro w'; go_simp; try with_reducible rfl
    simp only [Act.put, List.setIfInBounds_toArray, List.set_cons_zero, List.set_cons_succ]
    refine takeA (i := 4) (d := some 23) (v := ?_) rfl rfl (by kernel_rfl) (by kernel_rfl) (by kernel_rfl) (fun _ _ _ h => h) (Or.inl ⟨by rfl, ?_⟩) ?_
    rotate_left
    · intro w'; go_simp; try with_reducible rfl
    simp only [Act.put, List.setIfInBounds_toArray, List.set_cons_zero, List.set_cons_succ]
    refine takeA (i := 5) (d := some 24) (v := ?_) rfl rfl (by kernel_rfl) (by kernel_rfl) (by kernel_rfl) (fun _ _ _ h => h) (Or.inl ⟨by rfl, ?_⟩) ?_
    rotate_left
    · intro w'; go_simp; try with_reducible rfl
    simp only [Act.put, List.setIfInBounds_toArray, List.set_cons_zero, List.set_cons_succ]
    refine takeA (i := 8) (d := some 27) (v := ?_) rfl rfl (by kernel_rfl) (by kernel_rfl) (by kernel_rfl) (fun _ _ _ h => h) (Or.inl ⟨by rfl, ?_⟩) ?_
    rotate_left
    · intro w'; go_simp; try with_reducible rfl
    simp only [Act.put, List.setIfInBounds_toArray, List.set_cons_zero, List.set_cons_succ]
    refine takeA (i := 9) (d := some 28) (v := ?_) rfl rfl (by kernel_rfl) (by kernel_rfl) (by kernel_rfl) (fun _ _ _ h => h) (Or.inl ⟨by rfl, ?_⟩) ?_
    rotate_left
    · intro w'; go_simp; try with_reducible rfl
    simp only [Act.put, List.setIfInBounds_toArray, List.set_cons_zero, List.set_cons_succ]
    refine wpAny_ready (rs := [2, 12]) (by kernel_rfl) (by simp) ?_
    refine AllReady.cons rfl (fun K hK => ?_) (AllReady.cons rfl (fun K hK => ?_) AllReady.nil)
    · go_simp
      refine (HX.out _).mono ?_
      rintro e y1 ⟨rfl, hb1⟩
      have P_1 := Lib.hid (P_a.out.keep hb1)
      have b_1 := b_a.trans (hb1.mono b_a.size)
      clear hb1
      refine hK _ _ ?_
      clear hK K
      try simp only [Act.put, List.setIfInBounds_toArray, List.set_cons_zero, List.set_cons_succ]
      refine takeA (i := 3) (d := some 22) (v := ?_) rfl rfl (by kernel_rfl) (by kernel_rfl) (by kernel_rfl) (fun _ _ _ h => h) (Or.inl ⟨by rfl, ?_⟩) ?_
      rotate_left
      · intro w'; go_simp; try with_reducible rfl
      simp only [Act.put, List.setIfInBounds_toArray, List.set_cons_zero, List.set_cons_succ]
      refine wpAny_ready (rs := [6, 12]) (by kernel_rfl) (by simp) ?_
      refine AllReady.cons rfl (fun K hK => ?_) (AllReady.cons rfl (fun K hK => ?_) AllReady.nil)
      · go_simp
        refine (HY.out _).mono ?_
        rintro e y2 ⟨rfl, hb2⟩
        have P_2 := Lib.hid (P_1.out.keep hb2)
        have b_2 := b_1.trans (hb2.mono b_1.size)
        clear hb2
        refine hK _ _ ?_
        clear hK K
        try simp only [Act.put, List.setIfInBounds_toArray, List.set_cons_zero, List.set_cons_succ]
        refine takeA (i := 7) (d := some 26) (v := ?_) rfl rfl (by kernel_rfl) (by kernel_rfl) (by kernel_rfl) (fun _ _ _ h => h) (Or.inl ⟨by rfl, ?_⟩) ?_
        rotate_left
        · intro w'; go_simp; try with_reducible rfl
        simp only [Act.put, List.setIfInBounds_toArray, List.set_cons_zero, List.set_cons_succ]
        refine wpAny_ready (rs := [10, 12]) (by kernel_rfl) (by simp) ?_
        refine AllReady.cons rfl (fun K hK => ?_) (AllReady.cons rfl (fun K hK => ?_) AllReady.nil)
        · go_simp
          refine (HL.out _).mono ?_
          rintro e y3 ⟨rfl, hb3⟩
          have P_3 := Lib.hid (P_2.out.keep hb3)
          have b_3 := b_2.trans (hb3.mono b_2.size)
          clear hb3
          refine hK _ _ ?_
          clear hK K
          try simp only [Act.put, List.setIfInBounds_toArray, List.set_cons_zero, List.set_cons_succ]
          refine takeA (i := 11) (d := some 30) (v := ?_) rfl rfl (by kernel_rfl) (by kernel_rfl) (by kernel_rfl) (fun _ _ _ h => h) (Or.inl ⟨by rfl, ?_⟩) ?_
          rotate_left
          · intro w'; go_simp; try with_reducible rfl
          simp only [Act.put, List.setIfInBounds_toArray, List.set_cons_zero, List.set_cons_succ]
          refine wpAny_ready (rs := [12]) (by kernel_rfl) (by simp) ?_
          refine AllReady.cons rfl (fun K hK => ?_) AllReady.nil
          go_simp
          refine hK _ _ ?_
          clear hK K
          try simp only [Act.put, List.setIfInBounds_toArray, List.set_cons_zero, List.set_cons_succ]
          have P_4 := Lib.hid (P_3.out.alloc (.cells gzc 26))
          have L_4 : Hid (∀ m : Nat, m < y3.heap.size → m < y3.heap.size) := fun _ h => h
          have G_4 : Hid (GB y3.heap.size gz (World.alloc (y3) (.cells gzc 26))) := GB.new _ gz
          have b_4 := b_3.alloc b_3.size (.cells gzc 26)
          have LP_4 := P_3.out.lt
          have TH : Hid (World.there (World.alloc (y3) (.cells gzc 26)) (y3.heap.size) 0 5) := G_4.out.there
          refine wpAny_ready (rs := [13]) (by kernel_rfl) (by simp) ?_
          refine AllReady.cons rfl (fun K hK => ?_) AllReady.nil
          rw [if_pos (by rfl)]
          refine wp_store_mid _ _ _ rfl _ _ (gc (rg src dst s)) rfl rfl TH.out info26 (gc_one _) ?_
          refine hK _ _ ?_
          clear hK K
          try simp only [Act.put, List.setIfInBounds_toArray, List.set_cons_zero, List.set_cons_succ]
          refine wpAny_done (by kernel_rfl) ?_ _
          try dsimp only
          try go_wp2_with fail
          go_meet
          exact ⟨_, rfl, G_4.out.put _, P_4.out.setOther (Nat.ne_of_lt LP_4) _, Nat.ne_of_gt LP_4, below_setCells b_4 (Nat.le_of_lt LP_4) _ _⟩
        · go_simp
          refine hK _ _ ?_
          clear hK K
          try simp only [Act.put, List.setIfInBounds_toArray, List.set_cons_zero, List.set_cons_succ]
          have P_5 := Lib.hid (P_2.out.alloc (.cells gzc 26))
          have L_5 : Hid (∀ m : Nat, m < y2.heap.size → m < y2.heap.size) := fun _ h => h
          have G_5 : Hid (GB y2.heap.size gz (World.alloc (y2) (.cells gzc 26))) := GB.new _ gz
          have b_5 := b_2.alloc b_2.size (.cells gzc 26)
          have LP_5 := P_2.out.lt
          refine wpAny_ready (rs := [10]) (by kernel_rfl) (by simp) ?_
          refine AllReady.cons rfl (fun K hK => ?_) AllReady.nil
          go_simp
          refine (HL.out _).mono ?_
          rintro e y6 ⟨rfl, hb6⟩
          have P_6 := Lib.hid (P_5.out.keep hb6)
          have G_6 := Lib.hid (G_5.out.keep hb6)
          have b_6 := b_5.trans (hb6.mono b_5.size)
          clear hb6
          refine hK _ _ ?_
          clear hK K
          try simp only [Act.put, List.setIfInBounds_toArray, List.set_cons_zero, List.set_cons_succ]
          refine takeA (i := 11) (d := some 30) (v := ?_) rfl rfl (by kernel_rfl) (by kernel_rfl) (by kernel_rfl) (fun _ _ _ h => h) (Or.inl ⟨by rfl, ?_⟩) ?_
          rotate_left
          · intro w'; go_simp; try with_reducible rfl
          simp only [Act.put, List.setIfInBounds_toArray, List.set_cons_zero, List.set_cons_succ]
          have TH : Hid (World.there (y6) (y2.heap.size) 0 5) := G_6.out.there
          refine wpAny_ready (rs := [13]) (by kernel_rfl) (by simp) ?_
          refine AllReady.cons rfl (fun K hK => ?_) AllReady.nil
          rw [if_pos (by rfl)]
          refine wp_store_mid _ _ _ rfl _ _ (gc (rg src dst s)) rfl rfl TH.out info26 (gc_one _) ?_
          refine hK _ _ ?_
          clear hK K
          try simp only [Act.put, List.setIfInBounds_toArray, List.set_cons_zero, List.set_cons_succ]
          refine wpAny_done (by kernel_rfl) ?_ _
          try dsimp only
          try go_wp2_with fail
          go_meet
          exact ⟨_, rfl, G_6.out.put _, P_6.out.setOther (Nat.ne_of_lt LP_5) _, Nat.ne_of_gt LP_5, below_setCells b_6 (Nat.le_of_lt LP_5) _ _⟩
      · go_simp
        refine hK _ _ ?_
        clear hK K
        try simp only [Act.put, List.setIfInBounds_toArray, List.set_cons_zero, List.set_cons_succ]
        have P_7 := Lib.hid (P_1.out.alloc (.cells gzc 26))
        have L_7 : Hid (∀ m : Nat, m < y1.heap.size → m < y1.heap.size) := fun _ h => h
        have G_7 : Hid (GB y1.heap.size gz (World.alloc (y1) (.cells gzc 26))) := GB.new _ gz
        have b_7 := b_1.alloc b_1.size (.cells gzc 26)
        have LP_7 := P_1.out.lt
        refine wpAny_ready (rs := [6]) (by kernel_rfl) (by simp) ?_
        refine AllReady.cons rfl (fun K hK => ?_) AllReady.nil
        go_simp
        refine (HY.out _).mono ?_
        rintro e y8 ⟨rfl, hb8⟩
        have P_8 := Lib.hid (P_7.out.keep hb8)
        have G_8 := Lib.hid (G_7.out.keep hb8)
        have b_8 := b_7.trans (hb8.mono b_7.size)
        clear hb8
        refine hK _ _ ?_
        clear hK K
        try simp only [Act.put, List.setIfInBounds_toArray, List.set_cons_zero, List.set_cons_succ]
        refine takeA (i := 7) (d := some 26) (v := ?_) rfl rfl (by kernel_rfl) (by kernel_rfl) (by kernel_rfl) (fun _ _ _ h => h) (Or.inl ⟨by rfl, ?_⟩) ?_
        rotate_left
        · intro w'; go_simp; try with_reducible rfl
        simp only [Act.put, List.setIfInBounds_toArray, List.set_cons_zero, List.set_cons_succ]
        refine wpAny_ready (rs := [10]) (by kernel_rfl) (by simp) ?_
        refine AllReady.cons rfl (fun K hK => ?_) AllReady.nil
        go_simp
        refine (HL.out _).mono ?_
        rintro e y9 ⟨rfl, hb9⟩
        have P_9 := Lib.hid (P_8.out.keep hb9)
        have G_9 := Lib.hid (G_8.out.keep hb9)
        have b_9 := b_8.trans (hb9.mono b_8.size)
        clear hb9
        refine hK _ _ ?_
        clear hK K
        try simp only [Act.put, List.setIfInBounds_toArray, List.set_cons_zero, List.set_cons_succ]
        refine takeA (i := 11) (d := some 30) (v := ?_) rfl rfl (by kernel_rfl) (by kernel_rfl) (by kernel_rfl) (fun _ _ _ h => h) (Or.inl ⟨by rfl, ?_⟩) ?_
        rotate_left
        · intro w'; go_simp; try with_reducible rfl
        simp only [Act.put, List.setIfInBounds_toArray, List.set_cons_zero, List.set_cons_succ]
        have TH : Hid (World.there (y9) (y1.heap.size) 0 5) := G_9.out.there
        refine wpAny_ready (rs := [13]) (by kernel_rfl) (by simp) ?_
        refine AllReady.cons rfl (fun K hK => ?_) AllReady.nil
        rw [if_pos (by rfl)]
        refine wp_store_mid _ _ _ rfl _ _ (gc (rg src dst s)) rfl rfl TH.out info26 (gc_one _) ?_
        refine hK _ _ ?_
        clear hK K
        try simp only [Act.put, List.setIfInBounds_toArray, List.set_cons_zero, List.set_cons_succ]
        refine wpAny_done (by kernel_rfl) ?_ _
        try dsimp only
        try go_wp2_with fail
        go_meet
        exact ⟨_, rfl, G_9.out.put _, P_9.out.setOther (Nat.ne_of_lt LP_7) _, Nat.ne_of_gt LP_7, below_setCells b_9 (Nat.le_of_lt LP_7) _ _⟩
    · go_simp
      refine hK _ _ ?_
      clear hK K
      try simp only [Act.put, List.setIfInBounds_toArray, List.set_cons_zero, List.set_cons_succ]
      have P_10 := Lib.hid (P_a.out.alloc (.cells gzc 26))
      have L_10 : Hid (∀ m : Nat, m < w1.heap.size → m < w1.heap.size) := fun _ h => h
      have G_10 : Hid (GB w1.heap.size gz (World.alloc (w1.drew) (.cells gzc 26))) := GB.new _ gz
      have b_10 := b_a.alloc b_a.size (.cells gzc 26)
      have LP_10 := P_a.out.lt
      refine wpAny_ready (rs := [2]) (by kernel_rfl) (by simp) ?_
      refine AllReady.cons rfl (fun K hK => ?_) AllReady.nil
      go_simp
      refine (HX.out _).mono ?_
      rintro e y11 ⟨rfl, hb11⟩
      have P_11 := Lib.hid (P_10.out.keep hb11)
      have G_11 := Lib.hid (G_10.out.keep hb11)
      have b_11 := b_10.trans (hb11.mono b_10.size)
      clear hb11
      refine hK _ _ ?_
      clear hK K
      try simp only [Act.put, List.setIfInBounds_toArray, List.set_cons_zero, List.set_cons_succ]
      refine takeA (i := 3) (d := some 22) (v := ?_) rfl rfl (by kernel_rfl) (by kernel_rfl) (by kernel_rfl) (fun _ _ _ h => h) (Or.inl ⟨by rfl, ?_⟩) ?_
      rotate_left
      · intro w'; go_simp; try with_reducible rfl
      simp only [Act.put, List.setIfInBounds_toArray, List.set_cons_zero, List.set_cons_succ]
      refine wpAny_ready (rs := [6]) (by kernel_rfl) (by simp) ?_
      refine AllReady.cons rfl (fun K hK => ?_) AllReady.nil
      go_simp
      refine (HY.out _).mono ?_
      rintro e y12 ⟨rfl, hb12⟩
      have P_12 := Lib.hid (P_11.out.keep hb12)
      have G_12 := Lib.hid (G_11.out.keep hb12)
      have b_12 := b_11.trans (hb12.mono b_11.size)
      clear hb12
      refine hK _ _ ?_
      clear hK K
      try simp only [Act.put, List.setIfInBounds_toArray, List.set_cons_zero, List.set_cons_succ]
      refine takeA (i := 7) (d := some 26) (v := ?_) rfl rfl (by kernel_rfl) (by kernel_rfl) (by kernel_rfl) (fun _ _ _ h => h) (Or.inl ⟨by rfl, ?_⟩) ?_
      rotate_left
      · intro w'; go_simp; try with_reducible rfl
      simp only [Act.put, List.setIfInBounds_toArray, List.set_cons_zero, List.set_cons_succ]
      refine wpAny_ready (rs := [10]) (by kernel_rfl) (by simp) ?_
      refine AllReady.cons rfl (fun K hK => ?_) AllReady.nil
      go_simp
      refine (HL.out _).mono ?_
      rintro e y13 ⟨rfl, hb13⟩
      have P_13 := Lib.hid (P_12.out.keep hb13)
      have G_13 := Lib.hid (G_12.out.keep hb13)
      have b_13 := b_12.trans (hb13.mono b_12.size)
      clear hb13
      refine hK _ _ ?_
      clear hK K
      try simp only [Act.put, List.setIfInBounds_toArray, List.set_cons_zero, List.set_cons_succ]
      refine takeA (i := 11) (d := some 30) (v := ?_) rfl rfl (by kernel_rfl) (by kernel_rfl) (by kernel_rfl) (fun _ _ _ h => h) (Or.inl ⟨by rfl, ?_⟩) ?_
      rotate_left
      · intro w'; go_simp; try with_reducible rfl
      simp only [Act.put, List.setIfInBounds_toArray, List.set_cons_zero, List.set_cons_succ]
      have TH : Hid (World.there (y13) (w1.heap.size) 0 5) := G_13.out.there
      refine wpAny_ready (rs := [13]) (by kernel_rfl) (by simp) ?_
      refine AllReady.cons rfl (fun K hK => ?_) AllReady.nil
      rw [if_pos (by rfl)]
      refine wp_store_mid _ _ _ rfl _ _ (gc (rg src dst s)) rfl rfl TH.out info26 (gc_one _) ?_
      refine hK _ _ ?_
      clear hK K
      try simp only [Act.put, List.setIfInBounds_toArray, List.set_cons_zero, List.set_cons_succ]
      refine wpAny_done (by kernel_rfl) ?_ _
      try dsimp only
      try go_wp2_with fail
      go_meet
      exact ⟨_, rfl, G_13.out.put _, P_13.out.setOther (Nat.ne_of_lt LP_10) _, Nat.ne_of_gt LP_10, below_setCells b_13 (Nat.le_of_lt LP_10) _ _⟩
  case rest =>
    obtain ⟨n, rfl, Q, P, hn, b⟩ := hcut
    have Q1 := Lib.hid Q
    have P1 := Lib.hid P
    clear Q P P_a b_a
    have HU := Lib.hid Try.underlying26
    go_wp2_with (refine wpList_load_mid rfl _ _ rfl _ _ rfl (gcl (rg src dst s)) _ Q1.out.range HU.out rfl info26 ?_)
    refine (HC.out _).mono ?_; rintro e w5 ⟨rfl, hb5⟩
    have Q5 := Lib.hid (Q1.out.keep hb5)
    have P5 := Lib.hid (P1.out.keep hb5)
    have b5 := b.trans (hb5.mono b.size)
    clear Q1 P1 b hb5
    by_cases hk : C = 0
    · subst hk
      go_wp2_with (first | refine wpList_load_mid rfl _ _ rfl _ _ rfl (gcl (rg src dst s)) _ Q5.out.range HU.out rfl info26 ?_ | refine wpList_store_mid rfl _ _ _ rfl _ _ (gc (rg src dst s)) rfl rfl P5.out.there info26 (gc_one _) ?_)
      exact bodyPost_ret (v := .tuple #[gv (rg src dst s), .int .i64 0]) (by simp [results, Try.results11, Act.put, asAddr, told w5 w.heap.size gz (rg src dst s) P5.out]) rfl ⟨by first | rfl | rw [if_pos rfl], below_setCells b5 (Nat.le_refl _) _ _⟩
    · have hne : (C != 0) = true := by simpa using hk
      go_wp2_with (refine wpList_store_mid rfl _ _ _ rfl _ _ (gc gz) rfl rfl P5.out.there info26 (gc_one gz) ?_)
      exact bodyPost_ret (v := .tuple #[gv gz, .int .i64 C]) (by simp [results, Try.results11, Act.put, asAddr, told w5 w.heap.size gz gz P5.out]) rfl ⟨by first | rfl | rw [if_neg hk], below_setCells b5 (Nat.le_refl _) _ _⟩

theorem read_any (src dst : Nat) (s : ByteArray) (w : World) (h1 : src < 4294967296) (h2 : dst < 4294967296) (hs : s.size ≤ 281474976710656) :
    Calls Try.prog 11 #[.int .u32 (src : Int), .int .u32 (dst : Int), .string s] w fun e w' => e = .returned (.tuple #[gv (rres src dst s), .int .i64 (rerr src dst s)]) ∧ Below w.heap.size w w' := by
  by_cases hf : flt src dst s = 0
  · have h8 : 8 ≤ s.size := by
      by_cases h : s.size < 8
      · unfold flt at hf; rw [if_pos h] at hf; cases hf
      · omega
    have e : rerr src dst s = gchk (rg src dst s) := by unfold rerr; rw [if_pos hf]
    have := read_go src dst s w h1 h2 h8 hs hf
    unfold rres; rw [e]; exact this
  · have e : rerr src dst s = flt src dst s := by unfold rerr; rw [if_neg hf]
    unfold rres; rw [e, if_neg hf]
    exact read_flt src dst s w h1 h2 hs hf
end Go.Proofs.Ytaijmccdlffjhaa
