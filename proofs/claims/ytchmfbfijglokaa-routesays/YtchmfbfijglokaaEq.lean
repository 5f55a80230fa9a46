/-
  Contract of the document's Eq at prefixes, of two lists that are the same; of routes without a step; lists of the same prefixes.
-/
import Derived.Test.YtchmfbfijglokaaREmpty
namespace Go.Proofs.Ytchmfbfijglokaa
open Go.RowKit
set_option linter.unusedVariables false

/-- The prefixes of two lists are the same. -/
def KEq : List Ent → List Ent → Prop
  | [], [] => True
  | e :: L, f :: M => e.a = f.a ∧ e.b = f.b ∧ KEq L M
  | _, _ => False
theorem KEq.refl : ∀ L : List Ent, KEq L L
  | [] => trivial
  | e :: L => ⟨rfl, rfl, KEq.refl L⟩
theorem KEq.length : ∀ {L M : List Ent}, KEq L M → L.length = M.length
  | [], [], _ => rfl
  | e :: L, f :: M, h => by simp [KEq.length h.2.2]
  | [], f :: M, h => by cases h
  | e :: L, [], h => by cases h
theorem KEq.get : ∀ {L M : List Ent}, KEq L M → ∀ {i : Nat} {e f : Ent}, L[i]? = some e → M[i]? = some f → e.a = f.a ∧ e.b = f.b
  | [], [], _, i, e, f, h1, h2 => by simp at h1
  | x :: L, y :: M, h, 0, e, f, h1, h2 => by simp at h1 h2; subst h1 h2; exact ⟨h.1, h.2.1⟩
  | x :: L, y :: M, h, i + 1, e, f, h1, h2 => KEq.get h.2.2 (by simpa using h1) (by simpa using h2)
  | [], f :: M, h, _, _, _, _, _ => by cases h
  | e :: L, [], h, _, _, _, _, _ => by cases h
/-- Two that were found, or none. -/
def KO : Option Ent → Option Ent → Prop
  | none, none => True
  | some e, some f => e.a = f.a ∧ e.b = f.b
  | _, _ => False
theorem KEq.find (x : Nat) : ∀ {L M : List Ent} {o p : Option Ent}, KEq L M → KO o p → KO (findF x o L) (findF x p M)
  | [], [], o, p, _, ho => ho
  | e :: L, f :: M, o, p, h, ho => by
    rw [findF_cons, findF_cons, h.1, h.2.1]
    refine KEq.find x h.2.2 ?_
    split
    · exact ⟨h.1, h.2.1⟩
    · exact ho
  | [], f :: M, _, _, h, _ => by cases h
  | e :: L, [], _, _, h, _ => by cases h
theorem KO.same : ∀ {o p : Option Ent}, KO o p → fA o = fA p ∧ fB o = fB p ∧ o.isSome = p.isSome
  | none, none, _ => ⟨rfl, rfl, rfl⟩
  | some e, some f, h => ⟨h.1, h.2, rfl⟩
  | none, some _, h => by cases h
  | some _, none, h => by cases h
theorem KEq.has (a b : Nat) : ∀ {L M : List Ent}, KEq L M → hasE a b L = hasE a b M
  | [], [], _ => rfl
  | e :: L, f :: M, h => by
    have e1 : hasE a b (e :: L) = (isK a b e || hasE a b L) := rfl
    have e2 : hasE a b (f :: M) = (isK a b f || hasE a b M) := rfl
    rw [e1, e2, KEq.has a b h.2.2]
    unfold isK; rw [h.1, h.2.1]
  | [], f :: M, h => by cases h
  | e :: L, [], h => by cases h
theorem KEq.mem : ∀ {L M : List Ent}, KEq L M → ∀ {e : Ent}, e ∈ L → ∃ f ∈ M, e.a = f.a ∧ e.b = f.b
  | [], [], _, e, h => by cases h
  | x :: L, y :: M, h, e, he => by
    rcases List.mem_cons.1 he with rfl | he
    · exact ⟨y, List.mem_cons_self, h.1, h.2.1⟩
    · obtain ⟨f, h1, h2⟩ := KEq.mem h.2.2 he
      exact ⟨f, List.mem_cons_of_mem _ h1, h2⟩
  | [], f :: M, h, _, _ => by cases h
  | e :: L, [], h, _, _ => by cases h

set_option maxHeartbeats 2000000 in
theorem eq_any (o1 o2 : Option Addr) (g1 g2 c1 c2 n : Nat) (L1 L2 : List Ent) (w : World) (h1 : ListAt w o1 g1 L1) (h2 : ListAt w o2 g2 L2) (hk : KEq L1 L2) (n1 : L1.length = n) (hn : n ≤ 64) :
    Calls Try.prog 15 #[.slice o1 n c1, .slice o2 n c2] w fun e w' => e = .returned (.bool true) ∧ Below w.heap.size w w' := by
  have H1 := Lib.hid h1
  have H2 := Lib.hid h2
  have HK := Lib.hid hk
  have N1 := Lib.hid n1
  clear h1 h2 hk n1
  go_enter Try.func15, Try.ntmps15
  go_wp2_with fail
  go_loopw [14] (fun i W => ∃ k : Nat, k ≤ n ∧ i = .int .i64 k ∧ Below w.heap.size w W) (fun i _ => n - (intOf i).toNat)
  case atStart => exact ⟨0, Nat.zero_le _, rfl, Below.refl _ _⟩
  case round =>
    obtain ⟨k, hkn, rfl, hbel⟩ := hrel
    by_cases hlt : k < n
    · have N2 : L2.length = n := HK.out.length.symm.trans N1.out
      obtain ⟨rfl, z1, d1⟩ := (H1.out.keep hbel.size fun h => hbel.block g1 h) (by rw [N1.out]; omega)
      obtain ⟨rfl, z2, d2⟩ := (H2.out.keep hbel.size fun h => hbel.block g2 h) (by rw [N2]; omega)
      obtain ⟨e, he⟩ : ∃ e, L1[k]? = some e := ⟨L1[k]'(by rw [N1.out]; exact hlt), List.getElem?_eq_getElem _⟩
      obtain ⟨f, hf⟩ : ∃ f, L2[k]? = some f := ⟨L2[k]'(by rw [N2]; exact hlt), List.getElem?_eq_getElem _⟩
      obtain ⟨k1, k2⟩ := HK.out.get he hf
      obtain ⟨x0, x1⟩ := d1 k e he
      obtain ⟨y0, y1⟩ := d2 k f hf
      rw [← k1] at y0
      rw [← k2] at y1
      clear d1 d2 he hf k1 k2 N2
      go_wp2_with fail
      go_quiet (fail)
      go_wp2_with fail
      go_roundw
      case rel => exact ⟨k + 1, by omega, by go_num, below_drewN (hbel.alloc hbel.size _) _⟩
      case measure => simp [intOf]; omega
    · go_wp2_with fail
      go_ret
      exact ⟨rfl, hbel⟩

set_option maxHeartbeats 2000000 in
set_option maxRecDepth 100000 in
theorem routes_nil (w : World) :
    Calls Try.prog 20 #[.slice none 0 0] w fun e w' => ∃ tb bs, e = .returned (.pointer (some ⟨tb, 0, none⟩)) ∧ Tbl w' tb bs [] ∧ Below w.heap.size w w' ∧ ∀ k ∈ bs, w.heap.size ≤ k := by
  have HA : Hid (∀ (tb : Nat) (bs : List Nat) (L : List Ent) (w' : World), Tbl w' tb bs L → Calls Try.prog 10 #[.pointer (some ⟨tb, 0, none⟩), .agg #[.int .u32 0, .int .i64 33], .int .i64 0] w' fun e w'' => e = .returned (.int .i64 1) ∧ ∃ bs', Tbl w'' tb bs' L ∧ Kp bs w' w'' ∧ ∀ k ∈ bs', k ∈ bs ∨ w'.heap.size ≤ k) := fun tb bs L w' h => by
    have := add_any tb bs L 0 33 0 w' (by omega) h
    have e1 : addC L 0 33 = 1 := by unfold addC chk; simp
    have e2 : addL L 0 33 0 = L := by unfold addL; rw [e1]; simp
    rwa [e1, e2] at this
  go_enter Try.func20, Try.ntmps20
  go_wp2_with fail
  refine (new_any _).mono ?_; rintro e w1 ⟨rfl, T1, hb1⟩
  have T1 := Lib.hid T1
  go_wp2_with fail
  refine (HA.out _ _ _ _ T1.out).mono ?_; rintro e w2 ⟨rfl, bs2, hT2, hk2, hs2⟩
  have T2 := Lib.hid hT2
  clear hT2
  have h02 : Below w.heap.size w w2 := hb1.trans (hk2.below hb1.size (by simp))
  have hs2' : ∀ k ∈ bs2, w.heap.size ≤ k := fun k hk => by
    rcases hs2 k hk with h | h
    · simp at h; omega
    · have := hb1.size; omega
  go_wp2_with fail
  go_loopw [17] (fun i W => i = .int .i64 0 ∧ W = w2) (fun i _ => 0)
  case atStart => exact ⟨rfl, rfl⟩
  case round =>
    obtain ⟨rfl, rfl⟩ := hrel
    go_wp2_with fail
    go_ret
    exact ⟨_, bs2, rfl, T2.out, h02, hs2'⟩
end Go.Proofs.Ytchmfbfijglokaa
