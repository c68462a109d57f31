/- The reference's numbers (layer 2). -/
import Derived.Test.YthbjjfblapfjdaaDoorDigAbs
namespace Go.Proofs.YthbjjfblapfjdaaDoor
open Go.ChangeShapes Go.WideShapes Go.ChangeAt Go.RowKit

def keyV : Array Value := (keyL.map (Value.int .u32)).toArray
theorem keyV_get {k : Nat} (h : k < 64) : keyV[k]? = some (.int .u32 (kAt k)) := by
  have : keyL.length = 64 := rfl
  simp [keyV, kAt, List.getD_eq_getElem?_getD, show k < keyL.length by omega]
theorem keyV_size : keyV.size = 64 := rfl
theorem keyV_one : keyV.all (·.oneCell') = true := by kernel_rfl

set_option maxRecDepth 100000 in
set_option maxHeartbeats 2000000 in
theorem numbers_any (w : World) :
    Calls Tryd.prog 47 #[] w fun e w' => e = .returned (.agg keyV) ∧ Below w.heap.size w w' := by
  go_enter Tryd.func47, Tryd.ntmps47
  go_wp2_with (with_reducible refine held (o := ⟨none, _, _, _, _, _⟩) ?_)
  unfold Held
  refine wpList_store_row rfl _ (.tmp 0) (.tmp 1) rfl w.heap.size keyV rfl rfl 63 _ (blk_new _ _) (by rw [keyV_size]; kernel_rfl) (by rw [keyV_size]; rfl) keyV_one ?_
  rw [World.setRow_alloc_new]
  have hn := blk_new w (.cells keyV 63)
  have hB : Below w.heap.size w (w.alloc (.cells keyV 63)) := (Below.refl _ _).alloc (Nat.le_refl _) _
  generalize w.alloc (.cells keyV 63) = W at *
  go_wp2
  refine bodyPost_ret (v := .agg keyV) ?_ rfl ⟨rfl, hB⟩
  exact results_cell_row Tryd.results47 _ _ w.heap.size 63 keyV (0, 0) _ rfl hn Tryd.underlying63 rfl (by rw [keyV_size]; kernel_rfl)
end Go.Proofs.YthbjjfblapfjdaaDoor
