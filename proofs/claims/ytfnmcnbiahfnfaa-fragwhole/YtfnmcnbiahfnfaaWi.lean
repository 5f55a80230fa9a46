/-
  Copy of a list of packets (19); what the closure sees at the start.
-/
import Derived.Test.YtfnmcnbiahfnfaaWh
namespace Go.Proofs.Ytfnmcnbiahfnfaa
open Go.RowKit Go.Maps
set_option linter.unusedVariables false
set_option linter.unusedSimpArgs false

set_option maxHeartbeats 1000000 in
theorem copy_some (L : List Pk) (B g cap : Nat) (w : World) (h : PRow w B (.slice (some ⟨g, 0, none⟩) L.length cap) L) (h0 : 0 < L.length) (h9 : L.length ≤ 1000000) :
    Calls Try.prog 19 #[.slice (some ⟨g, 0, none⟩) L.length cap] w fun e w' => ∃ g' cap', e = .returned (.slice (some ⟨g', 0, none⟩) L.length cap') ∧ w.heap.size ≤ g' ∧ g' < w'.heap.size ∧ PRow w' w.heap.size (.slice (some ⟨g', 0, none⟩) L.length cap') L ∧ Below w.heap.size w w' := by
  obtain ⟨i0, hi0, hz0, hz1, hz2⟩ := info_parts info24z
  have hl := pcells_length L
  have hn : ∀ j u, (pcells L)[j]? = some u → w.cell? ((⟨g, 0, none⟩ : Addr).add j) = some u := World.ownsRow.cells h (g := g) rfl
  go_enter Try.func19, Try.ntmps19
  go_wp2_with (at_builtin; refine wpList_append_lies _ rfl _ _ _ rfl w.heap.size 24 i0 _ 9 64 Try.underlying25 hi0 hz0 hz1 hz2 rfl (by omega) (.slice none 0 0) 0 [] rfl (World.ownsRow_nil w w.heap.size 24 9) ⟨g, 0, none⟩ L.length cap (pcells L) rfl hl hn (pcells_one L) h0 (by unfold maxLen; omega) (by omega) (Nat.le_refl _) _ rfl ?_; intro g' cap' w2 own2 hgrow hat hglt)
  have hb2 : Below w.heap.size w w2 := (Below.refl _ _).grown hgrow (Nat.le_refl _) (fun j hj => by cases hj)
  have hge : w.heap.size ≤ g' := by
    rcases hat with hat | hat
    · cases hat
    · omega
  rw [List.nil_append, Nat.zero_add] at own2
  go_ret
  exact ⟨g', cap', rfl, hge, hglt, own2, hb2⟩

theorem wx_start {p q : Pk} {R1 n1 R2 n2 base pb ab qb tx tb mb g cap acap B : Nat} {ao : Option Addr} {w : World}
    (hp : PB pb p w) (hq : PB qb q w) (ha : w.heap[ab]? = some (.cells #[.slice ao n1 acap] 25 (0, 0))) (ht : w.heap[tx]? = some (.cells #[.pointer (some ⟨tb, 0, none⟩)] 32 (0, 0)))
    (hT : Tab w tb mb []) (row : PRow w B (.slice (some ⟨g, 0, none⟩) (n1 + n2) cap) (pks p R1 n1 ++ pks q R2 n2)) (h1 : 0 < n1) (h2 : 0 < n2) (hg : g < w.heap.size) (hbm : base ≤ mb) (hm : mb ∉ [pb, qb, ab, tx, g]) :
    GeoOk ⟨pb, ab, qb, tx, w.heap.size, w.heap.size + 3, w.heap.size + 1, tb, mb, g, cap, w.heap.size + 2, acap, ao⟩ base ∧
    WX ⟨pb, ab, qb, tx, w.heap.size, w.heap.size + 3, w.heap.size + 1, tb, mb, g, cap, w.heap.size + 2, acap, ao⟩ p q R1 n1 R2 n2 base
      ((((w.alloc (.cells #[.slice (some ⟨g, 0, none⟩) (n1 + n2) cap] 25)).alloc (.cells #[.int .i64 (n1 : Int), .int .i64 (n2 : Int)] 58)).alloc (.map #[] 0)).alloc (.cells #[.map (some (w.heap.size + 2))] 59)) := by
  have l1 := hp.lt
  have l2 := hq.lt
  have l3 := lt_of_heap ha
  have l4 := lt_of_heap ht
  have l5 := hT.lt
  have l6 := hT.mlt
  simp only [List.mem_cons, List.not_mem_nil, or_false, not_or] at hm
  obtain ⟨m1, m2, m3, m4, m5⟩ := hm
  have hb : Below w.heap.size w ((((w.alloc (.cells #[.slice (some ⟨g, 0, none⟩) (n1 + n2) cap] 25)).alloc (.cells #[.int .i64 (n1 : Int), .int .i64 (n2 : Int)] 58)).alloc (.map #[] 0)).alloc (.cells #[.map (some (w.heap.size + 2))] 59)) :=
    ((((Below.refl _ _).alloc (Nat.le_refl _) _).alloc (by simp) _).alloc (by simp; omega) _).alloc (by simp; omega) _
  refine ⟨⟨by show base ≤ w.heap.size + 1; omega, ?_, by show w.heap.size + 1 ≠ w.heap.size + 2; omega, by show w.heap.size + 1 ≠ tb; omega, by show base ≤ w.heap.size + 2; omega, ?_, by show w.heap.size + 2 ≠ tb; omega⟩, fun _ => false, fun _ => false, [], ⟨?_, ?_, ?_, ?_, ?_⟩⟩
  · simp [Geo.fx]; omega
  · simp [Geo.fx]; omega
  · refine ⟨hp.keep hb, hq.keep hb, (hb.block _ l3).trans ha, (hb.block _ l4).trans ht, ?_, ?_, fun k x hx => (row.on hb).range hx, ?_⟩
    · show (((((w.alloc _).alloc _).alloc _).alloc _).heap)[w.heap.size]? = _
      rw [heap_alloc_old _ _ (by simp; omega), heap_alloc_old _ _ (by simp; omega), heap_alloc_old _ _ (by simp), heap_alloc_new]
    · have := heap_alloc_new (((w.alloc (.cells #[.slice (some ⟨g, 0, none⟩) (n1 + n2) cap] 25)).alloc (.cells #[.int .i64 (n1 : Int), .int .i64 (n2 : Int)] 58)).alloc (.map #[] 0)) (.cells #[.map (some (w.heap.size + 2))] 59)
      simpa using this
    · show g < _
      have := hb.size
      omega
  · rw [lft_none, lft_none]
    show (((((w.alloc _).alloc _).alloc _).alloc _).heap)[w.heap.size + 1]? = _
    rw [heap_alloc_old _ _ (by simp), heap_alloc_old _ _ (by simp)]
    have := heap_alloc_new (w.alloc (.cells #[.slice (some ⟨g, 0, none⟩) (n1 + n2) cap] 25)) (.cells #[.int .i64 (n1 : Int), .int .i64 (n2 : Int)] 58)
    simpa using this
  · have := SM.new ((w.alloc (.cells #[.slice (some ⟨g, 0, none⟩) (n1 + n2) cap] 25)).alloc (.cells #[.int .i64 (n1 : Int), .int .i64 (n2 : Int)] 58)) (n1 + n2)
    rw [show ((w.alloc (.cells #[.slice (some ⟨g, 0, none⟩) (n1 + n2) cap] 25)).alloc (.cells #[.int .i64 (n1 : Int), .int .i64 (n2 : Int)] 58)).heap.size = w.heap.size + 2 from by simp] at this
    have := this.keep (W' := ((((w.alloc (.cells #[.slice (some ⟨g, 0, none⟩) (n1 + n2) cap] 25)).alloc (.cells #[.int .i64 (n1 : Int), .int .i64 (n2 : Int)] 58)).alloc (.map #[] 0)).alloc (.cells #[.map (some (w.heap.size + 2))] 59))) (heap_alloc_old _ _ (by simp))
    exact this.congr fun k hk => by simp [sn]
  · refine ⟨hT.kp (bs := []) (Kp.ofBelow hb) (by simp) (by simp) (by simp), ⟨Or.inl ⟨rfl, fun _ => rfl⟩, 0, h1, rfl⟩, ⟨Or.inl ⟨rfl, fun _ => rfl⟩, 0, h2, rfl⟩, ⟨by simp [abs], by simp [abs]⟩, fun k hk => ?_⟩
    simp [blks] at hk
    subst hk
    refine ⟨hbm, ?_, ?_, ?_⟩
    · simp [Geo.fx]; omega
    · show k ≠ w.heap.size + 1; omega
    · show k ≠ w.heap.size + 2; omega
  · have := hb.size; omega
end Go.Proofs.Ytfnmcnbiahfnfaa
