/-
  Write and Read (package ip), each by one contract; texts too short and too long.
-/
import Derived.Test.YtlkodoiiigndoaaRt
namespace Go.Proofs.Ytlkodoiiigndoaa
open Go.RowKit
set_option linter.unusedVariables false
set_option linter.unusedSimpArgs false

def wtd (p : Pk) : ByteArray := if chk p = 0 then wr p else ⟨#[]⟩
def rt (s : ByteArray) : Pk := if rerr s = 0 then rp s else pz
theorem write_any (p : Pk) (f : Fits p) (w : World) :
    Calls Try.prog 8 #[pv p] w fun e w' => e = .returned (.tuple #[.string (wtd p), .int .i64 (chk p)]) ∧ Below w.heap.size w w' := by
  unfold wtd
  by_cases h : chk p = 0
  · rw [if_pos h, h]; exact write_ok p w h f.src f.dst
  · rw [if_neg h]; exact write_bad p w h
theorem read_any (s : ByteArray) (hs : s.size ≤ 281474976710656) (w : World) :
    Calls Try.prog 12 #[.string s] w fun e w' => e = .returned (.tuple #[pv (rt s), .int .i64 (rerr s)]) ∧ Below w.heap.size w w' := by
  by_cases c0 : s.size < 20
  · have e : rerr s = 3 := by unfold rerr; rw [if_pos c0]
    have e2 : rt s = pz := by unfold rt; rw [e]; rfl
    rw [e, e2]; exact read_short s w c0
  · by_cases c1 : flt (Bs s) s.size = 0
    · have e : rerr s = chk (rp s) := by unfold rerr; rw [if_neg c0, if_neg (by omega)]
      by_cases c2 : chk (rp s) = 0
      · have e2 : rt s = rp s := by unfold rt; rw [e, if_pos c2]
        rw [e, e2, c2]; exact read_ok s w (by omega) hs c1 c2
      · have e2 : rt s = pz := by unfold rt; rw [e, if_neg c2]
        rw [e, e2]; exact read_chk s w (by omega) hs c1 c2
    · have e : rerr s = flt (Bs s) s.size := by unfold rerr; rw [if_neg c0, if_pos c1]
      have e2 : rt s = pz := by unfold rt; rw [e, if_neg c1]
      rw [e, e2]; exact read_flt s w (by omega) hs c1

theorem wr_assoc (p : Pk) (b : ByteArray) : wr p ++ b = (⟨(hd p).toArray⟩ : ByteArray) ++ (p.body ++ b) := by
  unfold wr
  apply ByteArray.ext
  apply Array.toList_inj.1
  simp only [ByteArray.data_append, Array.toList_append, List.append_assoc]
theorem wr_prefix (p : Pk) (k : Nat) (h : 20 ≤ k) : (wr p).extract 0 k = (⟨(hd p).toArray⟩ : ByteArray) ++ p.body.extract 0 (k - 20) := by
  apply ByteArray.ext
  apply Array.toList_inj.1
  unfold wr
  rw [extract_list, ByteArray.data_append, ByteArray.data_append, Array.toList_append, Array.toList_append, extract_list]
  show ((hd p ++ p.body.data.toList).take k).drop 0 = hd p ++ (p.body.data.toList.take (k - 20)).drop 0
  rw [List.drop_zero, List.drop_zero, List.take_append, hd_len, List.take_of_length_le (by rw [hd_len]; exact h)]
theorem rerr_prefix (p : Pk) (f : Fits p) (h : chk p = 0) (k : Nat) (hk : k < 20 + p.body.size) : rerr ((wr p).extract 0 k) = 3 := by
  by_cases c : k < 20
  · unfold rerr; rw [if_pos (by simp; omega)]
  · rw [wr_prefix p k (by omega), rerr_hd p f h _ (by simp; omega), if_pos (by simp; omega)]
theorem rerr_more (p : Pk) (f : Fits p) (h : chk p = 0) (b : ByteArray) (hb : b.size ≠ 0) : rerr (wr p ++ b) = 4 := by
  rw [wr_assoc, rerr_hd p f h _ (by rw [ByteArray.size_append]; omega), if_neg (by rw [ByteArray.size_append]; omega)]
theorem rerr_turned (p : Pk) (f : Fits p) (h : chk p = 0) (i k : Nat) (hi : i < 20) (hk : k < 8) (b : ByteArray) : rerr ((⟨((hd p).set i (fb (at20 (hd p) i) k)).toArray⟩ : ByteArray) ++ b) ≠ 0 := by
  have hl : ((hd p).set i (fb (at20 (hd p) i) k)).length = 20 := by rw [List.length_set, hd_len]
  have hf := flt_turned p f h i k hi hk (20 + b.size)
  intro hr
  obtain ⟨_, h2, _⟩ := rerr_zero _ hr
  rw [size_cat _ _ hl] at h2
  unfold Bs at h2
  rw [hb_cat _ _ hl] at h2
  exact hf h2
end Go.Proofs.Ytlkodoiiigndoaa
