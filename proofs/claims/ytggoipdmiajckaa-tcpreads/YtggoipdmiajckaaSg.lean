/-
  A segment as a plain record; contracts of isPort, beyond, four and checkSum (package tcp), and of the document's truth.
-/
import Derived.Test.YtggoipdmiajckaaCln
namespace Go.Proofs.Ytggoipdmiajckaa
open Go.RowKit
set_option linter.unusedVariables false
set_option linter.unusedSimpArgs false

structure Sg where
  sa : Nat
  sp : Int
  da : Nat
  dp : Int
  sq : Nat
  ak : Nat
  syn : Bool
  ack : Bool
  fin : Bool
  rst : Bool
  win : Int
  mss : Int
  body : ByteArray

/-- The cells of a segment. -/
abbrev gc (g : Sg) : Array Value := #[.int .u32 (g.sa : Int), .int .i64 g.sp, .int .u32 (g.da : Int), .int .i64 g.dp, .int .u32 (g.sq : Int), .int .u32 (g.ak : Int), .bool g.syn, .bool g.ack, .bool g.fin, .bool g.rst, .int .i64 g.win, .int .i64 g.mss, .string g.body]
/-- A segment's value. -/
abbrev gv (g : Sg) : Value := .agg (gc g)
/-- No segment. -/
def gz : Sg := ⟨0, 0, 0, 0, 0, 0, false, false, false, false, 0, 0, ⟨#[]⟩⟩
/-- Not from 1 to 65535. -/
abbrev badp (n : Int) : Prop := n < 1 ∨ 65535 < n
/-- Not from 0 to 65535. -/
abbrev bad0 (n : Int) : Prop := n < 0 ∨ 65535 < n
/-- What can't stand together: an Mss (m) without Syn, two of Syn, Fin, Rst, an Ack (a) without HasAck. -/
def frm (m a syn ack fin rst : Bool) : Bool := (m && !syn) || (syn && (fin || rst)) || (fin && rst) || (a && !ack)
/-- What is wrong with a segment. -/
def gchk (g : Sg) : Int := if badp g.sp ∨ badp g.dp ∨ bad0 g.win ∨ bad0 g.mss then 1 else if frm (g.mss != 0) ((g.ak : Int) != 0) g.syn g.ack g.fin g.rst = true then 4 else if 1000 < g.body.size then 2 else 0

theorem isPort_f (n : Int) (w : World) (h : badp n) :
    Calls Try.prog 28 #[.int .i64 n] w fun e w' => e = .returned (.bool false) ∧ w' = w := by
  unfold badp at h
  by_cases h0 : n < 1
  · have h1 : ¬ 1 ≤ n := by omega
    go_enter Try.func28, Try.ntmps28
    go_wp2
    go_ret
    exact ⟨rfl, rfl⟩
  · have h1 : 1 ≤ n := by omega
    have h2 : ¬ n ≤ 65535 := by omega
    clear h
    go_enter Try.func28, Try.ntmps28
    go_wp2
    go_ret
    exact ⟨rfl, rfl⟩
theorem isPort_t (n : Int) (w : World) (h : ¬ badp n) :
    Calls Try.prog 28 #[.int .i64 n] w fun e w' => e = .returned (.bool true) ∧ w' = w := by
  unfold badp at h
  have h0 : 1 ≤ n := by omega
  have h1 : n ≤ 65535 := by omega
  clear h
  go_enter Try.func28, Try.ntmps28
  go_wp2
  go_ret
  exact ⟨rfl, rfl⟩
theorem beyond_t (n : Int) (w : World) (h : bad0 n) :
    Calls Try.prog 29 #[.int .i64 n, .int .i64 65535] w fun e w' => e = .returned (.bool true) ∧ w' = w := by
  unfold bad0 at h
  by_cases h0 : n < 0
  · go_enter Try.func29, Try.ntmps29
    go_wp2
    go_ret
    exact ⟨rfl, rfl⟩
  · have h1 : 65535 < n := by omega
    clear h
    go_enter Try.func29, Try.ntmps29
    go_wp2
    go_ret
    exact ⟨rfl, rfl⟩
theorem beyond_f (n : Int) (w : World) (h : ¬ bad0 n) :
    Calls Try.prog 29 #[.int .i64 n, .int .i64 65535] w fun e w' => e = .returned (.bool false) ∧ w' = w := by
  unfold bad0 at h
  have h0 : ¬ n < 0 := by omega
  have h1 : ¬ 65535 < n := by omega
  clear h
  go_enter Try.func29, Try.ntmps29
  go_wp2
  go_ret
  exact ⟨rfl, rfl⟩
theorem outside_t (n : Int) (w : World) (h : badp n) :
    Calls Try.prog 31 #[.int .i64 n, .int .i64 1, .int .i64 65535] w fun e w' => e = .returned (.bool true) ∧ w' = w := by
  unfold badp at h
  by_cases h0 : n < 1
  · go_enter Try.func31, Try.ntmps31
    go_wp2
    go_ret
    exact ⟨rfl, rfl⟩
  · have h1 : 65535 < n := by omega
    go_enter Try.func31, Try.ntmps31
    go_wp2
    go_ret
    exact ⟨rfl, rfl⟩
theorem outside_f (n : Int) (w : World) (h : ¬ badp n) :
    Calls Try.prog 31 #[.int .i64 n, .int .i64 1, .int .i64 65535] w fun e w' => e = .returned (.bool false) ∧ w' = w := by
  unfold badp at h
  have h0 : ¬ n < 1 := by omega
  have h1 : ¬ 65535 < n := by omega
  clear h
  go_enter Try.func31, Try.ntmps31
  go_wp2
  go_ret
  exact ⟨rfl, rfl⟩
theorem outside0_t (n : Int) (w : World) (h : bad0 n) :
    Calls Try.prog 31 #[.int .i64 n, .int .i64 0, .int .i64 65535] w fun e w' => e = .returned (.bool true) ∧ w' = w := by
  unfold bad0 at h
  by_cases h0 : n < 0
  · go_enter Try.func31, Try.ntmps31
    go_wp2
    go_ret
    exact ⟨rfl, rfl⟩
  · have h1 : 65535 < n := by omega
    go_enter Try.func31, Try.ntmps31
    go_wp2
    go_ret
    exact ⟨rfl, rfl⟩
theorem outside0_f (n : Int) (w : World) (h : ¬ bad0 n) :
    Calls Try.prog 31 #[.int .i64 n, .int .i64 0, .int .i64 65535] w fun e w' => e = .returned (.bool false) ∧ w' = w := by
  unfold bad0 at h
  have h0 : ¬ n < 0 := by omega
  have h1 : ¬ 65535 < n := by omega
  clear h
  go_enter Try.func31, Try.ntmps31
  go_wp2
  go_ret
  exact ⟨rfl, rfl⟩

theorem gchk_ok {g : Sg} (h : gchk g = 0) : 1 ≤ g.sp ∧ g.sp ≤ 65535 ∧ 1 ≤ g.dp ∧ g.dp ≤ 65535 ∧ 0 ≤ g.win ∧ g.win ≤ 65535 ∧ 0 ≤ g.mss ∧ g.mss ≤ 65535 ∧ frm (g.mss != 0) ((g.ak : Int) != 0) g.syn g.ack g.fin g.rst = false ∧ g.body.size ≤ 1000 := by
  unfold gchk at h
  split at h
  · cases h
  · rename_i hb
    split at h
    · cases h
    · rename_i hf
      split at h
      · cases h
      · unfold badp bad0 at hb
        exact ⟨by omega, by omega, by omega, by omega, by omega, by omega, by omega, by omega, by simpa using hf, by omega⟩

/-- What a check sum is taken of. -/
def cst (src dst : Nat) (f b : ByteArray) : ByteArray := psd src dst 6 ((f ++ wd 0 ++ b).size : Int) ++ (f ++ wd 0 ++ b)
/-- The check sum that belongs between what stands ahead and what stands behind. -/
def cs (src dst : Nat) (f b : ByteArray) : Nat := 65535 - Pm.fd (Pm.hv true (cst src dst f b).data.toList)
theorem cs_le (src dst : Nat) (f b : ByteArray) : cs src dst f b ≤ 65535 := by unfold cs; omega
theorem psd_sz (src dst : Nat) (pr ln : Int) : (psd src dst pr ln).size = 12 := by
  unfold psd; simp only [ByteArray.size_append, w4_sz, wd_sz]

theorem checkSum_any (src dst : Nat) (f b : ByteArray) (w : World) (h1 : src < 4294967296) (h2 : dst < 4294967296) (hf : f.size ≤ 100) (hb : b.size ≤ 140737488360000) :
    Calls Try.prog 22 #[.int .u32 (src : Int), .int .u32 (dst : Int), .string f, .string b] w fun e w' => e = .returned (.int .i64 (cs src dst f b : Int)) ∧ Below w.heap.size w w' := by
  have HZ : Hid (∀ w', Calls Try.prog 19 #[.int .i64 0] w' fun e w'' => e = .returned (.string (wd 0)) ∧ Below w'.heap.size w' w'') := fun w' => utwoN 0 0 rfl (by omega) w'
  have z0 := wd_sz 0
  have zs : (f ++ wd 0 ++ b).size = f.size + 2 + b.size := by simp only [ByteArray.size_append, wd_sz]
  have zp := psd_sz src dst 6 ((f ++ wd 0 ++ b).size : Int)
  have t1 : ∀ w', (Op.stringOp .add f (wd 0)).run Try.prog w' = .ok (.string (f ++ wd 0)) w' := fun w' => run_string_add_sum w' _ _ (by omega)
  have t2 : ∀ w', (Op.stringOp .add (f ++ wd 0) b).run Try.prog w' = .ok (.string (f ++ wd 0 ++ b)) w' := fun w' => run_string_add_sum w' _ _ (by simp only [ByteArray.size_append]; omega)
  have HP : Hid (∀ w', Calls Try.prog 40 #[.int .u32 (src : Int), .int .u32 (dst : Int), .int .i64 6, .int .i64 ((f ++ wd 0 ++ b).size : Int)] w' fun e w'' => e = .returned (.string (psd src dst 6 ((f ++ wd 0 ++ b).size : Int))) ∧ Below w'.heap.size w' w'') := fun w' => pseudo_any src dst 6 _ w' h1 h2 (by omega) (by omega)
  have t3 : ∀ w', (Op.stringOp .add (psd src dst 6 ((f ++ wd 0 ++ b).size : Int)) (f ++ wd 0 ++ b)).run Try.prog w' = .ok (.string (cst src dst f b)) w' := fun w' => run_string_add_sum w' _ _ (by omega)
  have HK : Hid (∀ w', Calls Try.prog 39 #[.string (cst src dst f b)] w' fun e w'' => e = .returned (.int .u16 (cs src dst f b : Nat)) ∧ w'' = w') := fun w' => check_any _ w' (by unfold cst; rw [ByteArray.size_append]; omega)
  have hle := cs_le src dst f b
  clear zs zp z0
  generalize cs src dst f b = R at *
  generalize cst src dst f b = T at *
  generalize psd src dst 6 ((f ++ wd 0 ++ b).size : Int) = P at *
  generalize f ++ wd 0 ++ b = A at *
  generalize f ++ wd 0 = A1 at *
  generalize wd 0 = Z at *
  go_enter Try.func22, Try.ntmps22
  go_wp2_with fail
  refine (HZ.out _).mono ?_; rintro e w1 ⟨rfl, hb1⟩
  go_wp2_with fail
  refine (HP.out _).mono ?_; rintro e w2 ⟨rfl, hb2⟩
  have b2 := hb1.trans (hb2.mono hb1.size)
  go_wp2_with fail
  refine (HK.out _).mono ?_; rintro e w3 ⟨rfl, rfl⟩
  go_wp2
  go_ret
  exact ⟨rfl, b2⟩

theorem ufour_any (n : Nat) (w : World) (hn : n < 4294967296) :
    Calls Try.prog 20 #[.int .u32 n] w fun e w' => e = .returned (.string (w4 n)) ∧ Below w.heap.size w w' := by
  have za := wd_size (n / 65536)
  have zb := wd_size (n % 65536)
  have H1 : Hid (∀ w', Calls Try.prog 19 #[.int .i64 ((n : Int) / 65536)] w' fun e w'' => e = .returned (.string (wd (n / 65536))) ∧ Below w'.heap.size w' w'') := fun w' => by
    have := utwo_any ((n : Int) / 65536) w' (by omega) (by omega)
    rwa [show lo ((n : Int) / 65536) = n / 65536 from by unfold lo; omega] at this
  have H2 : Hid (∀ w', Calls Try.prog 19 #[.int .i64 (n : Int)] w' fun e w'' => e = .returned (.string (wd (n % 65536))) ∧ Below w'.heap.size w' w'') := fun w' => by
    have := utwo_any (n : Int) w' (by omega) (by omega)
    rwa [show lo (n : Int) = n % 65536 from by unfold lo; omega] at this
  have H4 : Hid (w4 n = wd (n / 65536) ++ wd (n % 65536)) := rfl
  generalize wd (n / 65536) = A at *
  generalize wd (n % 65536) = B at *
  go_enter Try.func20, Try.ntmps20
  go_wp2_with fail
  refine (H1.out _).mono ?_; rintro e w1 ⟨rfl, hb1⟩
  go_wp2_with fail
  refine (H2.out _).mono ?_; rintro e w2 ⟨rfl, hb2⟩
  go_wp2
  go_ret
  exact ⟨by rw [H4.out]; rfl, hb1.trans (hb2.mono hb1.size)⟩

theorem truth_any (b : Bool) (w : World) :
    Calls Try.prog 25 #[.bool b] w fun e w' => e = .returned (.int .i64 (b.toNat : Int)) ∧ w' = w := by
  cases b
  · go_enter Try.func25, Try.ntmps25
    go_wp2
    go_ret
    exact ⟨rfl, rfl⟩
  · go_enter Try.func25, Try.ntmps25
    go_wp2
    go_ret
    exact ⟨rfl, rfl⟩

/-- A block that holds a segment. -/
def GB (b : Nat) (g : Sg) (W : World) : Prop := W.heap[b]? = some (.cells (gc g) 26 (0, 0))
theorem GB.keep {b : Nat} {g : Sg} {W W1 : World} (h : GB b g W) (hb : Below W.heap.size W W1) : GB b g W1 := (hb.block _ (lt_of_heap h)).trans h
theorem GB.new (w : World) (g : Sg) : GB w.heap.size g (w.alloc (.cells (gc g) 26)) := heap_alloc_new _ _
theorem GB.lt {b : Nat} {g : Sg} {W : World} (h : GB b g W) : b < W.heap.size := lt_of_heap h
theorem GB.alloc {b : Nat} {g : Sg} {W : World} (h : GB b g W) (o : Obj) : GB b g (W.alloc o) := (Below.heap_alloc _ _ _ h.lt).trans h
theorem GB.drew {b : Nat} {g : Sg} {W : World} (h : GB b g W) : GB b g W.drew := h
theorem GB.c0 {b : Nat} {g : Sg} {W : World} (h : GB b g W) : W.cell? ⟨b, 0, none⟩ = some (.int .u32 (g.sa : Int)) := Joins.cell_of_block h 0
theorem GB.c1 {b : Nat} {g : Sg} {W : World} (h : GB b g W) : W.cell? ⟨b, 1, none⟩ = some (.int .i64 g.sp) := Joins.cell_of_block h 1
theorem GB.c2 {b : Nat} {g : Sg} {W : World} (h : GB b g W) : W.cell? ⟨b, 2, none⟩ = some (.int .u32 (g.da : Int)) := Joins.cell_of_block h 2
theorem GB.c3 {b : Nat} {g : Sg} {W : World} (h : GB b g W) : W.cell? ⟨b, 3, none⟩ = some (.int .i64 g.dp) := Joins.cell_of_block h 3
theorem GB.c4 {b : Nat} {g : Sg} {W : World} (h : GB b g W) : W.cell? ⟨b, 4, none⟩ = some (.int .u32 (g.sq : Int)) := Joins.cell_of_block h 4
theorem GB.c5 {b : Nat} {g : Sg} {W : World} (h : GB b g W) : W.cell? ⟨b, 5, none⟩ = some (.int .u32 (g.ak : Int)) := Joins.cell_of_block h 5
theorem GB.c6 {b : Nat} {g : Sg} {W : World} (h : GB b g W) : W.cell? ⟨b, 6, none⟩ = some (.bool g.syn) := Joins.cell_of_block h 6
theorem GB.c7 {b : Nat} {g : Sg} {W : World} (h : GB b g W) : W.cell? ⟨b, 7, none⟩ = some (.bool g.ack) := Joins.cell_of_block h 7
theorem GB.c8 {b : Nat} {g : Sg} {W : World} (h : GB b g W) : W.cell? ⟨b, 8, none⟩ = some (.bool g.fin) := Joins.cell_of_block h 8
theorem GB.c9 {b : Nat} {g : Sg} {W : World} (h : GB b g W) : W.cell? ⟨b, 9, none⟩ = some (.bool g.rst) := Joins.cell_of_block h 9
theorem GB.c10 {b : Nat} {g : Sg} {W : World} (h : GB b g W) : W.cell? ⟨b, 10, none⟩ = some (.int .i64 g.win) := Joins.cell_of_block h 10
theorem GB.c11 {b : Nat} {g : Sg} {W : World} (h : GB b g W) : W.cell? ⟨b, 11, none⟩ = some (.int .i64 g.mss) := Joins.cell_of_block h 11
theorem GB.c12 {b : Nat} {g : Sg} {W : World} (h : GB b g W) : W.cell? ⟨b, 12, none⟩ = some (.string g.body) := Joins.cell_of_block h 12
end Go.Proofs.Ytggoipdmiajckaa
