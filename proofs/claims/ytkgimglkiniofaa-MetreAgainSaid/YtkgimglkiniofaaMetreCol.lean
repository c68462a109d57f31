/- The closure of Bars (layer 10). -/
import Derived.Test.YtkgimglkiniofaaMetreMath
import Derived.Test.YtkgimglkiniofaaOwnRow
namespace Go.Proofs.Ytkgimglkiniofaa
open Go.ChangeShapes Go.WideShapes Go.ChangeAt Go.RowKit

theorem Ints.isSlice {w : World} {B : Nat} {v : Value} {l : List Int} (h : Ints w B v l) : ∃ a c, v = .slice a l.length c := by
  obtain ⟨a, _, c, hv, _⟩ := h.row
  exact ⟨a, c, hv⟩

set_option maxHeartbeats 1000000 in
theorem collect_any (D F BB : Nat) (v : Value) (fb : Bool) (xs : List Int) (t : Int) (W : World) (hD : W.heap[D]? = some (.cells #[v] 31 (0, 0))) (hF : W.heap[F]? = some (.cells #[.bool fb] 4 (0, 0)))
    (hI : Ints W BB v xs) (hDB : D < BB) (hBB : BB ≤ W.heap.size) (hx : xs.length ≤ 4096) :
    Calls Try.prog 25 #[.int .i64 t, .pointer (some ⟨D, 0, none⟩), .pointer (some ⟨F, 0, none⟩)] W fun e w' => (∃ u, e = .returned u) ∧
      ((xs.length = 4096 ∧ w' = W.setCell ⟨F, 0, none⟩ (.bool true)) ∨ (xs.length < 4096 ∧ ∃ v' w2, Ints w2 BB v' (xs ++ [t]) ∧ (W.alloc (.cells #[.int .i64 t] 3)).grownBy w2 v.ownBlock ∧ w' = w2.setCell ⟨D, 0, none⟩ v')) := by
  obtain ⟨av, cv, rfl⟩ := hI.isSlice
  have c0 := blk_cell hD 0
  have c1 := blk_cell hF 0; have f1 := blk_free hF 0
  simp at c0 c1 f1
  by_cases hful : xs.length = 4096
  · have HI := Lib.hid hI; clear hI
    have q : ((xs.length : Int) == 4096) = true := by simp; omega
    have HF := Lib.hid hful; clear hful
    go_enter Try.func25, Try.ntmps25
    go_wp2
    refine bodyPost_ret (results_none rfl _ _ _) rfl ?_
    exact ⟨⟨_, rfl⟩, .inl ⟨HF.out, rfl⟩⟩
  · have q : ((xs.length : Int) == 4096) = false := by simp; omega
    have hlt : xs.length < 4096 := by omega
    have HQ := Lib.hid hlt
    clear hful
    go_enter Try.func25, Try.ntmps25
    go_wp2_with (at_builtin; refine wpList_append_int rfl (.tmp 7) (.tmp 9) rfl BB _ xs rfl (hI.alloc _) _ t rfl _ _ (blk_new _ _) (by omega) (by simp; omega) ?_; intro v' w2 hO2 hU2 hg2; obtain ⟨av2, cv2, rfl⟩ := hO2.isSlice; have e6 := blk_cell (blk_below (blk_alloc hD _) hU2 hDB) 0; have h6 := blk_free (blk_below (blk_alloc hD _) hU2 hDB) 0; simp at e6 h6; have HZ := Lib.hid (show _ ∧ _ ∧ _ from ⟨hO2, hU2, hg2⟩); clear hO2 hU2 hg2)
    go_end0
    exact ⟨⟨_, rfl⟩, .inr ⟨HQ.out, _, _, HZ.out.1, HZ.out.2.2, by simp⟩⟩
end Go.Proofs.Ytkgimglkiniofaa
