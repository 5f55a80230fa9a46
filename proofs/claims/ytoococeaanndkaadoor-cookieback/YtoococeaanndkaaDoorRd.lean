/-
  A state in memory; a ROUND of package hash.
-/
import Derived.Test.YtoococeaanndkaaDoorBa
import Derived.Deep.CutBlock
import Derived.Deep.CutRange
namespace Go.Proofs.YtoococeaanndkaaDoor
open Go.RowKit
set_option linter.unusedVariables false
set_option linter.unusedSimpArgs false

/-- The four numbers. -/
structure Sp where
  a : Int
  b : Int
  c : Int
  d : Int
/-- A ROUND. -/
def Sp.rnd (s : Sp) : Sp :=
  let a1 := IntKind.u64.wrap (s.a + s.b)
  let b1 := bits .xor .u64 (rot s.b 13) a1
  let a2 := rot a1 32
  let c1 := IntKind.u64.wrap (s.c + s.d)
  let d1 := bits .xor .u64 (rot s.d 16) c1
  let a3 := IntKind.u64.wrap (a2 + d1)
  let d2 := bits .xor .u64 (rot d1 21) a3
  let c2 := IntKind.u64.wrap (c1 + b1)
  let b2 := bits .xor .u64 (rot b1 17) c2
  let c3 := rot c2 32
  ⟨a3, b2, c3, d2⟩
/-- All blocks that were there are as they were, but for those of the list. -/
structure Kp (bs : List Nat) (w w' : World) : Prop where
  os : w'.os = w.os
  tape : w'.tape = w.tape
  output : w'.output = w.output
  size : w.heap.size ≤ w'.heap.size
  block : ∀ k, k < w.heap.size → k ∉ bs → w'.heap[k]? = w.heap[k]?
theorem Kp.ofBelow {bs : List Nat} {w w' : World} (h : Below w.heap.size w w') : Kp bs w w' := ⟨h.os, h.tape, h.output, h.size, fun k hk _ => h.block k hk⟩
theorem Kp.refl (bs : List Nat) (w : World) : Kp bs w w := .ofBelow (Below.refl _ _)
theorem Kp.trans {bs cs : List Nat} {w w1 w2 : World} (h : Kp bs w w1) (k : Kp cs w1 w2) (hc : ∀ x ∈ cs, x ∈ bs ∨ w.heap.size ≤ x) : Kp bs w w2 :=
  ⟨k.os.trans h.os, k.tape.trans h.tape, k.output.trans h.output, Nat.le_trans h.size k.size, fun x hx hn =>
    (k.block x (Nat.lt_of_lt_of_le hx h.size) fun hm => (hc x hm).elim hn fun hle => by omega).trans (h.block x hx hn)⟩
theorem Kp.setCell {bs : List Nat} {w w' : World} (h : Kp bs w w') {p : Addr} (hp : p.block ∈ bs ∨ w.heap.size ≤ p.block) (u : Value) : Kp bs w (w'.setCell p u) :=
  ⟨h.os, h.tape, h.output, by simpa using h.size, fun k hk hn => (Below.heap_setCell _ _ _ _ (fun e => by rcases hp with hp | hp; exact hn (e ▸ hp); omega)).trans (h.block k hk hn)⟩
theorem Kp.drew {bs : List Nat} {w w' : World} (h : Kp bs w w') : Kp bs w w'.drew := ⟨h.os, h.tape, h.output, h.size, h.block⟩
theorem Kp.below {bs : List Nat} {w w' : World} (h : Kp bs w w') {B : Nat} (hB : B ≤ w.heap.size) (hb : ∀ k ∈ bs, B ≤ k) : Below B w w' :=
  ⟨h.os, h.tape, h.output, h.size, fun k hk => h.block k (by omega) fun hm => by have := hb k hm; omega⟩
theorem Kp.then {bs : List Nat} {w w1 w2 : World} (h : Kp bs w w1) (hb : Below w1.heap.size w1 w2) : Kp bs w w2 := h.trans (cs := []) (Kp.ofBelow hb) (by simp)

/-- A block that holds the four. -/
def SB (p : Nat) (s : Sp) (W : World) : Prop := W.heap[p]? = some (.cells #[.int .u64 s.a, .int .u64 s.b, .int .u64 s.c, .int .u64 s.d] 55 (0, 0))
section
variable {p : Nat} {s : Sp} {W W' : World}
theorem SB.lt (h : SB p s W) : p < W.heap.size := lt_of_heap h
theorem SB.keep (h : SB p s W) (hb : Below W.heap.size W W') : SB p s W' := (hb.block _ h.lt).trans h
theorem SB.drew (h : SB p s W) : SB p s W.drew := h
theorem SB.c0 (h : SB p s W) : W.cell? ⟨p, 0, none⟩ = some (.int .u64 s.a) := Joins.cell_of_block h 0
theorem SB.c1 (h : SB p s W) : W.cell? ⟨p, 1, none⟩ = some (.int .u64 s.b) := Joins.cell_of_block h 1
theorem SB.c2 (h : SB p s W) : W.cell? ⟨p, 2, none⟩ = some (.int .u64 s.c) := Joins.cell_of_block h 2
theorem SB.c3 (h : SB p s W) : W.cell? ⟨p, 3, none⟩ = some (.int .u64 s.d) := Joins.cell_of_block h 3
theorem SB.s0 (h : SB p s W) (x : Int) : SB p { s with a := x } (W.setCell ⟨p, 0, none⟩ (.int .u64 x)) := Joins.block_setCell h _
theorem SB.s1 (h : SB p s W) (x : Int) : SB p { s with b := x } (W.setCell ⟨p, 1, none⟩ (.int .u64 x)) := Joins.block_setCell h _
theorem SB.s2 (h : SB p s W) (x : Int) : SB p { s with c := x } (W.setCell ⟨p, 2, none⟩ (.int .u64 x)) := Joins.block_setCell h _
theorem SB.s3 (h : SB p s W) (x : Int) : SB p { s with d := x } (W.setCell ⟨p, 3, none⟩ (.int .u64 x)) := Joins.block_setCell h _
theorem SB.free (h : SB p s W) (i : Nat) : W.frozen? ⟨p, i, none⟩ = false := Joins.unfrozen_of_block h i
end

set_option maxHeartbeats 4000000 in
theorem rnd_any (p : Nat) (s : Sp) (w : World) (h : SB p s w) :
    Calls Tryd.prog 34 #[.pointer (some ⟨p, 0, none⟩)] w fun e w' => e = .returned (.tuple #[]) ∧ SB p s.rnd w' ∧ Kp [p] w w' := by
  obtain ⟨a, b, c, d⟩ := s
  obtain ⟨a1, Ea1⟩ : ∃ x, Hid (IntKind.u64.wrap (a + b) = x) := ⟨_, rfl⟩
  obtain ⟨b1, Eb1⟩ : ∃ x, Hid (bits .xor .u64 (rot b 13) a1 = x) := ⟨_, rfl⟩
  obtain ⟨a2, Ea2⟩ : ∃ x, Hid (rot a1 32 = x) := ⟨_, rfl⟩
  obtain ⟨c1, Ec1⟩ : ∃ x, Hid (IntKind.u64.wrap (c + d) = x) := ⟨_, rfl⟩
  obtain ⟨d1, Ed1⟩ : ∃ x, Hid (bits .xor .u64 (rot d 16) c1 = x) := ⟨_, rfl⟩
  obtain ⟨a3, Ea3⟩ : ∃ x, Hid (IntKind.u64.wrap (a2 + d1) = x) := ⟨_, rfl⟩
  obtain ⟨d2, Ed2⟩ : ∃ x, Hid (bits .xor .u64 (rot d1 21) a3 = x) := ⟨_, rfl⟩
  obtain ⟨c2, Ec2⟩ : ∃ x, Hid (IntKind.u64.wrap (c1 + b1) = x) := ⟨_, rfl⟩
  obtain ⟨b2, Eb2⟩ : ∃ x, Hid (bits .xor .u64 (rot b1 17) c2 = x) := ⟨_, rfl⟩
  obtain ⟨c3, Ec3⟩ : ∃ x, Hid (rot c2 32 = x) := ⟨_, rfl⟩
  have HF : Hid ((⟨a3, b2, c3, d2⟩ : Sp) = Sp.rnd ⟨a, b, c, d⟩) := by
    show _ = _
    rw [← Ec3.out, ← Eb2.out, ← Ec2.out, ← Ed2.out, ← Ea3.out, ← Ed1.out, ← Ec1.out, ← Ea2.out, ← Eb1.out, ← Ea1.out]; rfl
  generalize Sp.rnd ⟨a, b, c, d⟩ = r at *
  have B0 := Lib.hid h
  have K0 := Lib.hid (Kp.refl [p] w)
  clear h
  go_enter Tryd.func34, Tryd.ntmps34
  have x0 := B0.out.c0
  have x1 := B0.out.c1
  have x2 := B0.out.c2
  have x3 := B0.out.c3
  have fr := B0.out.free 0
  go_upto_region 0 with fail
  go_cut [] from 2 to 12 (fun wx => SB p ⟨a1, b, c, d⟩ wx ∧ Kp [p] w wx)
  case first =>
    go_region
    all_goals go_wp2_with fail
    all_goals go_meet
    all_goals exact ⟨by rw [← Ea1.out]; exact (B0.out.s0 _).drew, (K0.out.setCell (Or.inl (by simp)) _).drew⟩
  case rest =>
    obtain ⟨B, K⟩ := hcut
    have B1 := Lib.hid B
    have K1 := Lib.hid K
    clear B K x0 x1 x2 x3 fr B0 K0
    generalize wc = W1 at *
    have x0 := B1.out.c0
    have x1 := B1.out.c1
    have x2 := B1.out.c2
    have x3 := B1.out.c3
    have fr := B1.out.free 1
    go_upto_region 1 with fail
    go_cut [] from 13 to 25 (fun wx => SB p ⟨a1, b1, c, d⟩ wx ∧ Kp [p] w wx)
    case first =>
      go_region_with (go_at_call 35; refine (rotl_13 _ _).mono ?_; rintro e w1 ⟨rfl, rfl⟩)
      all_goals go_wp2_with fail
      all_goals go_meet
      all_goals exact ⟨by rw [← Eb1.out]; exact (B1.out.s1 _).drew, (K1.out.setCell (Or.inl (by simp)) _).drew⟩
    case rest =>
      obtain ⟨B, K⟩ := hcut
      have B2 := Lib.hid B
      have K2 := Lib.hid K
      clear B K x0 x1 x2 x3 fr B1 K1
      generalize wc = W2 at *
      have x0 := B2.out.c0
      have x1 := B2.out.c1
      have x2 := B2.out.c2
      have x3 := B2.out.c3
      have fr := B2.out.free 0
      go_upto_region 2 with fail
      go_cut [] from 26 to 33 (fun wx => SB p ⟨a2, b1, c, d⟩ wx ∧ Kp [p] w wx)
      case first =>
        go_wp2_with fail
        refine (rotl_32 _ _).mono ?_; rintro e w1 ⟨rfl, rfl⟩
        go_wp2_with fail
        go_meet
        exact ⟨by rw [← Ea2.out]; exact (B2.out.s0 _), (K2.out.setCell (Or.inl (by simp)) _)⟩
      case rest =>
        obtain ⟨B, K⟩ := hcut
        have B3 := Lib.hid B
        have K3 := Lib.hid K
        clear B K x0 x1 x2 x3 fr B2 K2
        generalize wc = W3 at *
        have x0 := B3.out.c0
        have x1 := B3.out.c1
        have x2 := B3.out.c2
        have x3 := B3.out.c3
        have fr := B3.out.free 2
        go_upto_region 3 with fail
        go_cut [] from 34 to 44 (fun wx => SB p ⟨a2, b1, c1, d⟩ wx ∧ Kp [p] w wx)
        case first =>
          go_region
          all_goals go_wp2_with fail
          all_goals go_meet
          all_goals exact ⟨by rw [← Ec1.out]; exact (B3.out.s2 _).drew, (K3.out.setCell (Or.inl (by simp)) _).drew⟩
        case rest =>
          obtain ⟨B, K⟩ := hcut
          have B4 := Lib.hid B
          have K4 := Lib.hid K
          clear B K x0 x1 x2 x3 fr B3 K3
          generalize wc = W4 at *
          have x0 := B4.out.c0
          have x1 := B4.out.c1
          have x2 := B4.out.c2
          have x3 := B4.out.c3
          have fr := B4.out.free 3
          go_upto_region 4 with fail
          go_cut [] from 45 to 57 (fun wx => SB p ⟨a2, b1, c1, d1⟩ wx ∧ Kp [p] w wx)
          case first =>
            go_region_with (go_at_call 35; refine (rotl_16 _ _).mono ?_; rintro e w1 ⟨rfl, rfl⟩)
            all_goals go_wp2_with fail
            all_goals go_meet
            all_goals exact ⟨by rw [← Ed1.out]; exact (B4.out.s3 _).drew, (K4.out.setCell (Or.inl (by simp)) _).drew⟩
          case rest =>
            obtain ⟨B, K⟩ := hcut
            have B5 := Lib.hid B
            have K5 := Lib.hid K
            clear B K x0 x1 x2 x3 fr B4 K4
            generalize wc = W5 at *
            have x0 := B5.out.c0
            have x1 := B5.out.c1
            have x2 := B5.out.c2
            have x3 := B5.out.c3
            have fr := B5.out.free 0
            go_upto_region 5 with fail
            go_cut [] from 58 to 68 (fun wx => SB p ⟨a3, b1, c1, d1⟩ wx ∧ Kp [p] w wx)
            case first =>
              go_region
              all_goals go_wp2_with fail
              all_goals go_meet
              all_goals exact ⟨by rw [← Ea3.out]; exact (B5.out.s0 _).drew, (K5.out.setCell (Or.inl (by simp)) _).drew⟩
            case rest =>
              obtain ⟨B, K⟩ := hcut
              have B6 := Lib.hid B
              have K6 := Lib.hid K
              clear B K x0 x1 x2 x3 fr B5 K5
              generalize wc = W6 at *
              have x0 := B6.out.c0
              have x1 := B6.out.c1
              have x2 := B6.out.c2
              have x3 := B6.out.c3
              have fr := B6.out.free 3
              go_upto_region 6 with fail
              go_cut [] from 69 to 81 (fun wx => SB p ⟨a3, b1, c1, d2⟩ wx ∧ Kp [p] w wx)
              case first =>
                go_region_with (go_at_call 35; refine (rotl_21 _ _).mono ?_; rintro e w1 ⟨rfl, rfl⟩)
                all_goals go_wp2_with fail
                all_goals go_meet
                all_goals exact ⟨by rw [← Ed2.out]; exact (B6.out.s3 _).drew, (K6.out.setCell (Or.inl (by simp)) _).drew⟩
              case rest =>
                obtain ⟨B, K⟩ := hcut
                have B7 := Lib.hid B
                have K7 := Lib.hid K
                clear B K x0 x1 x2 x3 fr B6 K6
                generalize wc = W7 at *
                have x0 := B7.out.c0
                have x1 := B7.out.c1
                have x2 := B7.out.c2
                have x3 := B7.out.c3
                have fr := B7.out.free 2
                go_upto_region 7 with fail
                go_cut [] from 82 to 92 (fun wx => SB p ⟨a3, b1, c2, d2⟩ wx ∧ Kp [p] w wx)
                case first =>
                  go_region
                  all_goals go_wp2_with fail
                  all_goals go_meet
                  all_goals exact ⟨by rw [← Ec2.out]; exact (B7.out.s2 _).drew, (K7.out.setCell (Or.inl (by simp)) _).drew⟩
                case rest =>
                  obtain ⟨B, K⟩ := hcut
                  have B8 := Lib.hid B
                  have K8 := Lib.hid K
                  clear B K x0 x1 x2 x3 fr B7 K7
                  generalize wc = W8 at *
                  have x0 := B8.out.c0
                  have x1 := B8.out.c1
                  have x2 := B8.out.c2
                  have x3 := B8.out.c3
                  have fr := B8.out.free 1
                  go_upto_region 8 with fail
                  go_cut [] from 93 to 105 (fun wx => SB p ⟨a3, b2, c2, d2⟩ wx ∧ Kp [p] w wx)
                  case first =>
                    go_region_with (go_at_call 35; refine (rotl_17 _ _).mono ?_; rintro e w1 ⟨rfl, rfl⟩)
                    all_goals go_wp2_with fail
                    all_goals go_meet
                    all_goals exact ⟨by rw [← Eb2.out]; exact (B8.out.s1 _).drew, (K8.out.setCell (Or.inl (by simp)) _).drew⟩
                  case rest =>
                    obtain ⟨B, K⟩ := hcut
                    have B9 := Lib.hid B
                    have K9 := Lib.hid K
                    clear B K x0 x1 x2 x3 fr B8 K8
                    generalize wc = W9 at *
                    have x0 := B9.out.c0
                    have x1 := B9.out.c1
                    have x2 := B9.out.c2
                    have x3 := B9.out.c3
                    have fr := B9.out.free 2
                    go_wp2_with fail
                    refine (rotl_32 _ _).mono ?_; rintro e w1 ⟨rfl, rfl⟩
                    go_wp2_with fail
                    refine bodyPost_end (results_none rfl _ _ _) rfl ?_
                    exact ⟨rfl, by rw [← HF.out, ← Ec3.out]; exact B9.out.s2 _, K9.out.setCell (Or.inl (by simp)) _⟩
end Go.Proofs.YtoococeaanndkaaDoor
