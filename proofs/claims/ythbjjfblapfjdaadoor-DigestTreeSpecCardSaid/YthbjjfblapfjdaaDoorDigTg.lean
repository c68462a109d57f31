/- Tagged, the program's and the reference's (layer 2). -/
import Derived.Test.YthbjjfblapfjdaaDoorDigApp
namespace Go.Proofs.YthbjjfblapfjdaaDoor
open Go.ChangeShapes Go.WideShapes Go.ChangeAt Go.RowKit
set_option maxRecDepth 100000 in
set_option maxHeartbeats 4000000 in
theorem tagged_any (s : ByteArray) (a : Option Addr) (b off n cap : Nat) (l : List Int) (w : World) (hK : Keys w) (hR : RowB w a b off n l) (hnc : a = none → cap = 0) (hsz : s.size ≤ 900000) (hn : n ≤ 800000) :
    Calls Tryd.prog 14 #[.string s, .slice a n cap] w fun e w' => e = .returned (.agg (dgV (tagS s l))) ∧ Below w.heap.size w w' := by
  have HR := Lib.hid (show _ ∧ _ from ⟨hR, hK⟩)
  clear hR hK
  have kc := fun (W : World) => run_bytes_of_string (P := Tryd.prog) W 9 22 5 s Tryd.underlying9 Tryd.underlying22 Tryd.underlying5
  go_enter Tryd.func14, Tryd.ntmps14
  go_upto_region 1 with fail
  have hd := blk_new w (.cells (List.toArray (.int .u8 0 :: .int .u8 0 :: .int .u8 0 :: .int .u8 0 :: .int .u8 0 :: .int .u8 0 :: .int .u8 0 :: .int .u8 0 :: .int .u8 0 :: .int .u8 0 :: .int .u8 0 :: .int .u8 0 :: .int .u8 0 :: .int .u8 0 :: .int .u8 0 :: .int .u8 0 :: .int .u8 0 :: .int .u8 0 :: .int .u8 0 :: .int .u8 0 :: .int .u8 0 :: .int .u8 0 :: .int .u8 0 :: .int .u8 0 :: .int .u8 0 :: .int .u8 0 :: .int .u8 0 :: .int .u8 0 :: .int .u8 0 :: .int .u8 0 :: .int .u8 0 :: .int .u8 0 :: [])) 26)
  have hz : (w.alloc (.cells (List.toArray (.int .u8 0 :: .int .u8 0 :: .int .u8 0 :: .int .u8 0 :: .int .u8 0 :: .int .u8 0 :: .int .u8 0 :: .int .u8 0 :: .int .u8 0 :: .int .u8 0 :: .int .u8 0 :: .int .u8 0 :: .int .u8 0 :: .int .u8 0 :: .int .u8 0 :: .int .u8 0 :: .int .u8 0 :: .int .u8 0 :: .int .u8 0 :: .int .u8 0 :: .int .u8 0 :: .int .u8 0 :: .int .u8 0 :: .int .u8 0 :: .int .u8 0 :: .int .u8 0 :: .int .u8 0 :: .int .u8 0 :: .int .u8 0 :: .int .u8 0 :: .int .u8 0 :: .int .u8 0 :: [])) 26)).heap.size = w.heap.size + 1 := by simp
  have hB : Below w.heap.size w (w.alloc (.cells (List.toArray (.int .u8 0 :: .int .u8 0 :: .int .u8 0 :: .int .u8 0 :: .int .u8 0 :: .int .u8 0 :: .int .u8 0 :: .int .u8 0 :: .int .u8 0 :: .int .u8 0 :: .int .u8 0 :: .int .u8 0 :: .int .u8 0 :: .int .u8 0 :: .int .u8 0 :: .int .u8 0 :: .int .u8 0 :: .int .u8 0 :: .int .u8 0 :: .int .u8 0 :: .int .u8 0 :: .int .u8 0 :: .int .u8 0 :: .int .u8 0 :: .int .u8 0 :: .int .u8 0 :: .int .u8 0 :: .int .u8 0 :: .int .u8 0 :: .int .u8 0 :: .int .u8 0 :: .int .u8 0 :: [])) 26)) := (Below.refl _ _).alloc (Nat.le_refl _) _
  have HD := Lib.hid (show _ ∧ _ ∧ _ from ⟨hd, hz, hB⟩)
  clear hd hz hB
  generalize w.alloc (.cells (List.toArray (.int .u8 0 :: .int .u8 0 :: .int .u8 0 :: .int .u8 0 :: .int .u8 0 :: .int .u8 0 :: .int .u8 0 :: .int .u8 0 :: .int .u8 0 :: .int .u8 0 :: .int .u8 0 :: .int .u8 0 :: .int .u8 0 :: .int .u8 0 :: .int .u8 0 :: .int .u8 0 :: .int .u8 0 :: .int .u8 0 :: .int .u8 0 :: .int .u8 0 :: .int .u8 0 :: .int .u8 0 :: .int .u8 0 :: .int .u8 0 :: .int .u8 0 :: .int .u8 0 :: .int .u8 0 :: .int .u8 0 :: .int .u8 0 :: .int .u8 0 :: .int .u8 0 :: .int .u8 0 :: [])) 26) = W1 at *
  go_wp2_with fail
  have hz1 := HD.out.2.1
  have hbs := blk_drew (blk_new W1 (.cells (bytesRow s (grownCap W1 s.size 0 5)) 5 ((bytesRow s (grownCap W1 s.size 0 5)).size, (bytesRow s (grownCap W1 s.size 0 5)).size + 1)))
  have hbd := blk_drew (blk_alloc HD.out.1 (.cells (bytesRow s (grownCap W1 s.size 0 5)) 5 ((bytesRow s (grownCap W1 s.size 0 5)).size, (bytesRow s (grownCap W1 s.size 0 5)).size + 1)))
  have hbB := (HD.out.2.2.alloc (by omega) (.cells (bytesRow s (grownCap W1 s.size 0 5)) 5 ((bytesRow s (grownCap W1 s.size 0 5)).size, (bytesRow s (grownCap W1 s.size 0 5)).size + 1))).drew
  refine (sum_any _ W1.heap.size 0 s.size _ (strL s) _ (HR.out.2.below hbB) (RowB.of_str hbs) (grownCap_ge _ _ _ _) hsz).mono ?_
  rintro e W2 ⟨rfl, hb2⟩
  have hd2 := blk_below hbd hb2 (by simp; omega)
  have hB2 := below_after hbB hb2 (by simp; omega)
  have hz2 : w.heap.size + 1 < W2.heap.size := by have := hb2.size; simp at this; omega
  have HE := Lib.hid (show _ ∧ _ from ⟨hd2, hB2⟩)
  clear hbs hbd hbB hb2 hd2 hB2 HD
  go_wp2_with (with_reducible refine held (o := ⟨none, _, _, _, _, _⟩) ?_)
  unfold Held
  refine wpList_store_row rfl _ (.tmp 5) (.tmp 8) rfl W2.heap.size (dgV (sumS (strL s))) rfl rfl 26 _ (blk_new _ _) (by rw [dgV_size]; kernel_rfl) (by rw [dgV_size]; rfl) (dgV_one _) ?_
  rw [World.setRow_alloc_new]
  have hd3 := blk_alloc HE.out.1 (.cells (dgV (sumS (strL s))) 26)
  have ht3 := blk_new W2 (.cells (dgV (sumS (strL s))) 26)
  have hB3 := HE.out.2.alloc (by omega) (.cells (dgV (sumS (strL s))) 26)
  have hz3 : (W2.alloc (.cells (dgV (sumS (strL s))) 26)).heap.size = W2.heap.size + 1 := by simp
  have HF := Lib.hid (show _ ∧ _ ∧ _ ∧ _ from ⟨hd3, ht3, hB3, hz3⟩)
  clear hd3 ht3 hB3 hz3 HE
  generalize W2.alloc (.cells (dgV (sumS (strL s))) 26) = W3 at *
  go_wp2_with (first
    | (at_builtin; refine wpList_append_full rfl (.tmp 9) (.tmp 10) rfl W2.heap.size 32 (dgL (sumS (strL s))) rfl (RowB.of_dg HF.out.2.1) _ b off _ _ l rfl (HR.out.1.below HF.out.2.2.1 (Nat.le_refl _)) hnc (by omega) ?_; intro b4 c4 W4 hR4 hc4 hB4)
    | (with_reducible refine held (o := ⟨none, _, _, _, _, _⟩) ?_))
  have hd4 := blk_below HF.out.1 hB4 (Array.getElem?_eq_some_iff.1 HF.out.1).1
  have hB4' := below_after HF.out.2.2.1 hB4 HF.out.2.2.1.size
  have HB4 := Lib.hid (show _ ∧ _ ∧ _ from ⟨hB4', hR4, hd4⟩)
  clear hd4 hB4' hB4 hR4 HF
  refine (sum_any _ b4 0 (32 + n) c4 (dgL (sumS (strL s)) ++ l) _ (HR.out.2.below HB4.out.1) HB4.out.2.1 hc4 (by omega)).mono ?_
  rintro e W5 ⟨rfl, hb5⟩
  have hd5 := blk_below HB4.out.2.2 hb5 (Array.getElem?_eq_some_iff.1 HB4.out.2.2).1
  have hB5 := below_after HB4.out.1 hb5 HB4.out.1.size
  have HG := Lib.hid (show _ ∧ _ from ⟨hd5, hB5⟩)
  clear hd5 hB5 hb5
  go_wp2_with (with_reducible refine held (o := ⟨none, _, _, _, _, _⟩) ?_)
  unfold Held
  refine wpList_store_row rfl _ (.tmp 4) (.tmp 12) rfl w.heap.size (dgV (tagS s l)) rfl rfl 26 _ HG.out.1 (by rw [dgV_size]; kernel_rfl) (by rw [dgV_size]; rfl) (dgV_one _) ?_
  have hD4 := setRow_heap W5 w.heap.size _ (dgV (tagS s l)) 26 (0, 0) HG.out.1
  have hB6 := below_setRow HG.out.2 (Nat.le_refl _) (dgV (tagS s l))
  generalize W5.setRow w.heap.size (dgV (tagS s l)) = W6 at *
  go_wp2
  refine bodyPost_ret (v := .agg (dgV (tagS s l))) ?_ rfl ⟨rfl, hB6⟩
  exact results_cell_row Tryd.results14 _ _ w.heap.size 26 (dgV (tagS s l)) (0, 0) _ rfl hD4 Tryd.underlying26 rfl (by rw [dgV_size]; kernel_rfl)
end Go.Proofs.YthbjjfblapfjdaaDoor
