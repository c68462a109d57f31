/- What digest.Sum (layer 2) is about: the padded message and its blocks. -/
import Derived.Test.YthbjjfblapfjdaaDoorDigRSum
namespace Go.Proofs.YthbjjfblapfjdaaDoor
open Go.ChangeShapes Go.WideShapes Go.ChangeAt Go.RowKit

theorem padL_low (l : List Int) {i : Nat} (h : i < l.length) : (padL l).getD i 0 = l.getD i 0 := by
  unfold padL
  rw [List.getD_eq_getElem?_getD, List.getD_eq_getElem?_getD, List.append_assoc, List.append_assoc, List.getElem?_append_left h]
/-- The end that the program pads is the end of the padded message. -/
theorem padL_end (l : List Int) {k : Nat} (h : 64 * k ≤ l.length) : padE (l.drop (64 * k)) l.length = (padL l).drop (64 * k) := by
  unfold padE padL
  have hz : zN (l.drop (64 * k)).length = zN l.length := by unfold zN; rw [List.length_drop]; omega
  rw [hz, List.append_assoc, List.append_assoc, List.append_assoc, List.append_assoc, List.drop_append_of_le_length h]
theorem blk_low {w : World} {a : Option Addr} {b off n : Nat} {l : List Int} (h : RowB w a b off n l) {k : Nat} (hk : 64 * k + 64 ≤ n) : Blk w b (off + 64 * k) (blkL (padL l) k) :=
  ⟨h.old (by omega), fun i hi => by rw [blkL_get _ k i hi, padL_low l (by rw [h.len]; omega), Nat.add_assoc]; exact h.cel _ (by omega)⟩
theorem blkL_drop (P : List Int) (k j : Nat) : blkL (P.drop (64 * k)) j = blkL P (k + j) := by
  unfold blkL
  rw [List.drop_drop, show 64 * k + 64 * j = 64 * (k + j) by omega]

theorem RowB.rest {w : World} {a a' : Option Addr} {b off n : Nat} {l : List Int} (h : RowB w a b off n l) {i m : Nat} (hi : i ≤ n) (hm : i + m = n) (ha : 0 < m → a' = some ⟨b, off + i, none⟩) : RowB w a' b (off + i) m (l.drop i) :=
  ⟨by have := h.len; simp; omega, ha, fun hs => h.old (by omega), fun j hj => by
    have e := h.cel (i + j) (by omega)
    rw [Nat.add_assoc, e]
    simp [List.getD_eq_getElem?_getD, List.getElem?_drop]⟩
theorem below_trans' {B : Nat} {w w1 w2 : World} (h : Below B w w1) (h2 : Below B w1 w2) : Below B w w2 := h.trans h2
end Go.Proofs.YthbjjfblapfjdaaDoor
