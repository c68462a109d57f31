/- node and Chain of the reference (layer 2). -/
import Derived.Test.YthbjjfblapfjdaaDoorDigPair
namespace Go.Proofs.YthbjjfblapfjdaaDoor
open Go.ChangeShapes Go.WideShapes Go.ChangeAt Go.RowKit
set_option maxRecDepth 100000 in
set_option maxHeartbeats 4000000 in
theorem node_any (L1 L2 : List Int) (h1 : L1.length = 32) (h2 : L2.length = 32) (w : World) :
    Calls Tryd.prog 36 #[.agg (bV L1), .agg (bV L2)] w fun e w' => e = .returned (.agg (dgV (tagS ⟨#[110, 111, 100, 101]⟩ (L1 ++ L2)))) ∧ Below w.heap.size w w' := by
  go_enter Tryd.func36, Tryd.ntmps36
  go_upto_region 1 with fail
  have hb := blk_alloc (blk_alloc (blk_new w (.cells (bV L1) 26)) (.cells (bV L2) 26)) (.cells (List.toArray (.int .u8 0 :: .int .u8 0 :: .int .u8 0 :: .int .u8 0 :: .int .u8 0 :: .int .u8 0 :: .int .u8 0 :: .int .u8 0 :: .int .u8 0 :: .int .u8 0 :: .int .u8 0 :: .int .u8 0 :: .int .u8 0 :: .int .u8 0 :: .int .u8 0 :: .int .u8 0 :: .int .u8 0 :: .int .u8 0 :: .int .u8 0 :: .int .u8 0 :: .int .u8 0 :: .int .u8 0 :: .int .u8 0 :: .int .u8 0 :: .int .u8 0 :: .int .u8 0 :: .int .u8 0 :: .int .u8 0 :: .int .u8 0 :: .int .u8 0 :: .int .u8 0 :: .int .u8 0 :: [])) 26)
  have hc := blk_alloc (blkN (W := w.alloc (.cells (bV L1) 26)) (o := .cells (bV L2) 26) (k := w.heap.size + 1) (by simp)) (.cells (List.toArray (.int .u8 0 :: .int .u8 0 :: .int .u8 0 :: .int .u8 0 :: .int .u8 0 :: .int .u8 0 :: .int .u8 0 :: .int .u8 0 :: .int .u8 0 :: .int .u8 0 :: .int .u8 0 :: .int .u8 0 :: .int .u8 0 :: .int .u8 0 :: .int .u8 0 :: .int .u8 0 :: .int .u8 0 :: .int .u8 0 :: .int .u8 0 :: .int .u8 0 :: .int .u8 0 :: .int .u8 0 :: .int .u8 0 :: .int .u8 0 :: .int .u8 0 :: .int .u8 0 :: .int .u8 0 :: .int .u8 0 :: .int .u8 0 :: .int .u8 0 :: .int .u8 0 :: .int .u8 0 :: [])) 26)
  have hd := blkN (W := (w.alloc (.cells (bV L1) 26)).alloc (.cells (bV L2) 26)) (o := .cells (List.toArray (.int .u8 0 :: .int .u8 0 :: .int .u8 0 :: .int .u8 0 :: .int .u8 0 :: .int .u8 0 :: .int .u8 0 :: .int .u8 0 :: .int .u8 0 :: .int .u8 0 :: .int .u8 0 :: .int .u8 0 :: .int .u8 0 :: .int .u8 0 :: .int .u8 0 :: .int .u8 0 :: .int .u8 0 :: .int .u8 0 :: .int .u8 0 :: .int .u8 0 :: .int .u8 0 :: .int .u8 0 :: .int .u8 0 :: .int .u8 0 :: .int .u8 0 :: .int .u8 0 :: .int .u8 0 :: .int .u8 0 :: .int .u8 0 :: .int .u8 0 :: .int .u8 0 :: .int .u8 0 :: [])) 26) (k := w.heap.size + 2) (by simp)
  have hB : Below w.heap.size w (((w.alloc (.cells (bV L1) 26)).alloc (.cells (bV L2) 26)).alloc (.cells (List.toArray (.int .u8 0 :: .int .u8 0 :: .int .u8 0 :: .int .u8 0 :: .int .u8 0 :: .int .u8 0 :: .int .u8 0 :: .int .u8 0 :: .int .u8 0 :: .int .u8 0 :: .int .u8 0 :: .int .u8 0 :: .int .u8 0 :: .int .u8 0 :: .int .u8 0 :: .int .u8 0 :: .int .u8 0 :: .int .u8 0 :: .int .u8 0 :: .int .u8 0 :: .int .u8 0 :: .int .u8 0 :: .int .u8 0 :: .int .u8 0 :: .int .u8 0 :: .int .u8 0 :: .int .u8 0 :: .int .u8 0 :: .int .u8 0 :: .int .u8 0 :: .int .u8 0 :: .int .u8 0 :: [])) 26)) := (((Below.refl _ _).alloc (Nat.le_refl _) _).alloc (by simp) _).alloc (by simp; omega) _
  have HD := Lib.hid (show _ ∧ _ ∧ _ ∧ _ from ⟨hd, hb, hc, hB⟩)
  clear hd hb hc hB
  generalize ((w.alloc (.cells (bV L1) 26)).alloc (.cells (bV L2) 26)).alloc (.cells (List.toArray (.int .u8 0 :: .int .u8 0 :: .int .u8 0 :: .int .u8 0 :: .int .u8 0 :: .int .u8 0 :: .int .u8 0 :: .int .u8 0 :: .int .u8 0 :: .int .u8 0 :: .int .u8 0 :: .int .u8 0 :: .int .u8 0 :: .int .u8 0 :: .int .u8 0 :: .int .u8 0 :: .int .u8 0 :: .int .u8 0 :: .int .u8 0 :: .int .u8 0 :: .int .u8 0 :: .int .u8 0 :: .int .u8 0 :: .int .u8 0 :: .int .u8 0 :: .int .u8 0 :: .int .u8 0 :: .int .u8 0 :: .int .u8 0 :: .int .u8 0 :: .int .u8 0 :: .int .u8 0 :: [])) 26) = W1 at *
  refine wp_region_from 1 1 (fun w' => True) (by kernel_rfl) (by kernel_rfl) (by decide) (by kernel_rfl) trivial ?_
  simp only [List.drop_succ_cons, List.drop_zero, List.take_succ_cons, List.take_zero]
  refine wpHeld_cons (.slice (some ⟨w.heap.size, 0, none⟩) 32 32) (by kernel_rfl) ?_ ?_
  · rintro w' -
    try go_simp
  refine wpHeld_nil ?_
  go_simp
  refine wpAnyH_from 3 1 (fun _ _ _ _ _ h => h) (by kernel_rfl) (by decide) (by kernel_rfl) trivial ?_
  simp only [List.drop_succ_cons, List.drop_zero, List.take_succ_cons, List.take_zero]
  refine wpHeld_cons (.slice (some ⟨w.heap.size + 1, 0, none⟩) 32 32) (by kernel_rfl) ?_ ?_
  · rintro w' -
    try go_simp
  refine wpHeld_nil ?_
  go_simp
  refine wpAnyH_one (i := 0) (by kernel_rfl) rfl (by kernel_rfl) (fun K' hK' => ?_)
  go_simp
  refine hK' _ _ trivial ?_
  clear hK' K'
  have hE := Byts.empty W1.drew
  have hEB : Below W1.heap.size W1 (W1.drew.alloc (.cells #[] 5)) := (Below.refl _ _).drew.alloc (Nat.le_refl _) _
  have HE := Lib.hid (show _ ∧ _ from ⟨hE, hEB⟩)
  clear hE hEB
  refine wpAnyH_one (i := 2) (by kernel_rfl) rfl (by kernel_rfl) (fun K' hK' => ?_)
  refine wp_append_brow (.tmp 5) (.tmp 6) rfl W1.heap.size _ [] rfl HE.out.1 _ w.heap.size 0 32 32 L1 rfl (RowB.of_bV h1 (blk_below HD.out.2.1 HE.out.2 (Array.getElem?_eq_some_iff.1 HD.out.2.1).1)) (fun h => by cases h) (by decide) HE.out.2.size ?_
  intro v3 W3 hO3 hB3 hgx
  clear hgx
  rw [List.nil_append] at hO3
  have hE3 := HE.out.2.trans hB3
  refine hK' _ _ trivial ?_
  clear hK' K'
  refine wpAnyH_one (i := 4) (by kernel_rfl) rfl (by kernel_rfl) (fun K' hK' => ?_)
  refine wp_append_brow (.tmp 7) (.tmp 8) rfl W1.heap.size _ L1 rfl hO3 _ (w.heap.size + 1) 0 32 32 L2 rfl (RowB.of_bV h2 (blk_below HD.out.2.2.1 hE3 (Array.getElem?_eq_some_iff.1 HD.out.2.2.1).1)) (fun h => by cases h) (by omega) hE3.size ?_
  intro v4 W4 hO4 hB4 hgx
  clear hgx
  have hB4 := hE3.trans hB4
  obtain ⟨a4, b4, c4, rfl, hR4, hc4, hm4⟩ := hO4.row
  rw [show (L1 ++ L2).length = 64 by rw [List.length_append, h1, h2]] at hR4 hc4 ⊢
  have hd4 := blk_below HD.out.1 hB4 (Array.getElem?_eq_some_iff.1 HD.out.1).1
  have hB4' := below_after HD.out.2.2.2 hB4 HD.out.2.2.2.size
  have HB4 := Lib.hid (show _ ∧ _ ∧ _ from ⟨hB4', hR4, hd4⟩)
  clear hd4 hB4' hB4 hR4 HD HE hE3 hO3 hO4 hB3
  refine hK' _ _ trivial ?_
  clear hK' K'
  refine wpAnyH_one (i := 5) (by kernel_rfl) rfl (by kernel_rfl) (fun K' hK' => ?_)
  go_simp
  refine (rtagged_any ⟨#[110, 111, 100, 101]⟩ _ b4 0 64 c4 (L1 ++ L2) _ HB4.out.2.1 (fun h => by have := HB4.out.2.1.adr (by omega); rw [h] at this; cases this) (by decide) (by decide)).mono ?_
  rintro e W5 ⟨rfl, hb5⟩
  have hd5 := blk_below HB4.out.2.2 hb5 (Array.getElem?_eq_some_iff.1 HB4.out.2.2).1
  have hB5 := below_after HB4.out.1 hb5 HB4.out.1.size
  have HG := Lib.hid (show _ ∧ _ from ⟨hd5, hB5⟩)
  clear hd5 hB5 hb5 HB4
  refine hK' _ _ trivial ?_
  clear hK' K'
  refine wpAnyH_one (i := 6) (by kernel_rfl) rfl (by kernel_rfl) (fun K' hK' => ?_)
  refine wp_store_row 26 (.tmp 4) (.tmp 10) rfl (w.heap.size + 2) (dgV (tagS ⟨#[110, 111, 100, 101]⟩ (L1 ++ L2))) rfl rfl 26 _ HG.out.1 (by rw [dgV_size]; kernel_rfl) (by rw [dgV_size]; rfl) (dgV_one _) ?_
  have hD4 := setRow_heap W5 (w.heap.size + 2) _ (dgV (tagS ⟨#[110, 111, 100, 101]⟩ (L1 ++ L2))) 26 (0, 0) HG.out.1
  have hB6 := below_setRow HG.out.2 (show w.heap.size ≤ w.heap.size + 2 by omega) (dgV (tagS ⟨#[110, 111, 100, 101]⟩ (L1 ++ L2)))
  generalize W5.setRow (w.heap.size + 2) (dgV (tagS ⟨#[110, 111, 100, 101]⟩ (L1 ++ L2))) = W6 at *
  go_simp
  refine hK' _ _ trivial ?_
  clear hK' K'
  refine wpAnyH_done (by kernel_rfl) ?_ _
  refine NoPanic.normal ?_
  go_wp2
  refine bodyPost_ret (v := .agg (dgV (tagS ⟨#[110, 111, 100, 101]⟩ (L1 ++ L2)))) ?_ rfl ⟨rfl, hB6⟩
  exact results_cell_row Tryd.results36 _ _ (w.heap.size + 2) 26 (dgV (tagS ⟨#[110, 111, 100, 101]⟩ (L1 ++ L2))) (0, 0) _ rfl hD4 Tryd.underlying26 rfl (by rw [dgV_size]; kernel_rfl)
set_option maxRecDepth 100000 in
set_option maxHeartbeats 4000000 in
theorem rchain_any (L1 L2 : List Int) (h1 : L1.length = 32) (h2 : L2.length = 32) (w : World) :
    Calls Tryd.prog 26 #[.agg (bV L1), .agg (bV L2)] w fun e w' => e = .returned (.agg (dgV (tagS ⟨#[99, 104, 97, 105, 110]⟩ (L1 ++ L2)))) ∧ Below w.heap.size w w' := by
  go_enter Tryd.func26, Tryd.ntmps26
  go_upto_region 1 with fail
  have hb := blk_alloc (blk_alloc (blk_new w (.cells (bV L1) 26)) (.cells (bV L2) 26)) (.cells (List.toArray (.int .u8 0 :: .int .u8 0 :: .int .u8 0 :: .int .u8 0 :: .int .u8 0 :: .int .u8 0 :: .int .u8 0 :: .int .u8 0 :: .int .u8 0 :: .int .u8 0 :: .int .u8 0 :: .int .u8 0 :: .int .u8 0 :: .int .u8 0 :: .int .u8 0 :: .int .u8 0 :: .int .u8 0 :: .int .u8 0 :: .int .u8 0 :: .int .u8 0 :: .int .u8 0 :: .int .u8 0 :: .int .u8 0 :: .int .u8 0 :: .int .u8 0 :: .int .u8 0 :: .int .u8 0 :: .int .u8 0 :: .int .u8 0 :: .int .u8 0 :: .int .u8 0 :: .int .u8 0 :: [])) 26)
  have hc := blk_alloc (blkN (W := w.alloc (.cells (bV L1) 26)) (o := .cells (bV L2) 26) (k := w.heap.size + 1) (by simp)) (.cells (List.toArray (.int .u8 0 :: .int .u8 0 :: .int .u8 0 :: .int .u8 0 :: .int .u8 0 :: .int .u8 0 :: .int .u8 0 :: .int .u8 0 :: .int .u8 0 :: .int .u8 0 :: .int .u8 0 :: .int .u8 0 :: .int .u8 0 :: .int .u8 0 :: .int .u8 0 :: .int .u8 0 :: .int .u8 0 :: .int .u8 0 :: .int .u8 0 :: .int .u8 0 :: .int .u8 0 :: .int .u8 0 :: .int .u8 0 :: .int .u8 0 :: .int .u8 0 :: .int .u8 0 :: .int .u8 0 :: .int .u8 0 :: .int .u8 0 :: .int .u8 0 :: .int .u8 0 :: .int .u8 0 :: [])) 26)
  have hd := blkN (W := (w.alloc (.cells (bV L1) 26)).alloc (.cells (bV L2) 26)) (o := .cells (List.toArray (.int .u8 0 :: .int .u8 0 :: .int .u8 0 :: .int .u8 0 :: .int .u8 0 :: .int .u8 0 :: .int .u8 0 :: .int .u8 0 :: .int .u8 0 :: .int .u8 0 :: .int .u8 0 :: .int .u8 0 :: .int .u8 0 :: .int .u8 0 :: .int .u8 0 :: .int .u8 0 :: .int .u8 0 :: .int .u8 0 :: .int .u8 0 :: .int .u8 0 :: .int .u8 0 :: .int .u8 0 :: .int .u8 0 :: .int .u8 0 :: .int .u8 0 :: .int .u8 0 :: .int .u8 0 :: .int .u8 0 :: .int .u8 0 :: .int .u8 0 :: .int .u8 0 :: .int .u8 0 :: [])) 26) (k := w.heap.size + 2) (by simp)
  have hB : Below w.heap.size w (((w.alloc (.cells (bV L1) 26)).alloc (.cells (bV L2) 26)).alloc (.cells (List.toArray (.int .u8 0 :: .int .u8 0 :: .int .u8 0 :: .int .u8 0 :: .int .u8 0 :: .int .u8 0 :: .int .u8 0 :: .int .u8 0 :: .int .u8 0 :: .int .u8 0 :: .int .u8 0 :: .int .u8 0 :: .int .u8 0 :: .int .u8 0 :: .int .u8 0 :: .int .u8 0 :: .int .u8 0 :: .int .u8 0 :: .int .u8 0 :: .int .u8 0 :: .int .u8 0 :: .int .u8 0 :: .int .u8 0 :: .int .u8 0 :: .int .u8 0 :: .int .u8 0 :: .int .u8 0 :: .int .u8 0 :: .int .u8 0 :: .int .u8 0 :: .int .u8 0 :: .int .u8 0 :: [])) 26)) := (((Below.refl _ _).alloc (Nat.le_refl _) _).alloc (by simp) _).alloc (by simp; omega) _
  have HD := Lib.hid (show _ ∧ _ ∧ _ ∧ _ from ⟨hd, hb, hc, hB⟩)
  clear hd hb hc hB
  generalize ((w.alloc (.cells (bV L1) 26)).alloc (.cells (bV L2) 26)).alloc (.cells (List.toArray (.int .u8 0 :: .int .u8 0 :: .int .u8 0 :: .int .u8 0 :: .int .u8 0 :: .int .u8 0 :: .int .u8 0 :: .int .u8 0 :: .int .u8 0 :: .int .u8 0 :: .int .u8 0 :: .int .u8 0 :: .int .u8 0 :: .int .u8 0 :: .int .u8 0 :: .int .u8 0 :: .int .u8 0 :: .int .u8 0 :: .int .u8 0 :: .int .u8 0 :: .int .u8 0 :: .int .u8 0 :: .int .u8 0 :: .int .u8 0 :: .int .u8 0 :: .int .u8 0 :: .int .u8 0 :: .int .u8 0 :: .int .u8 0 :: .int .u8 0 :: .int .u8 0 :: .int .u8 0 :: [])) 26) = W1 at *
  refine wp_region_from 1 1 (fun w' => True) (by kernel_rfl) (by kernel_rfl) (by decide) (by kernel_rfl) trivial ?_
  simp only [List.drop_succ_cons, List.drop_zero, List.take_succ_cons, List.take_zero]
  refine wpHeld_cons (.slice (some ⟨w.heap.size, 0, none⟩) 32 32) (by kernel_rfl) ?_ ?_
  · rintro w' -
    try go_simp
  refine wpHeld_nil ?_
  go_simp
  refine wpAnyH_from 3 1 (fun _ _ _ _ _ h => h) (by kernel_rfl) (by decide) (by kernel_rfl) trivial ?_
  simp only [List.drop_succ_cons, List.drop_zero, List.take_succ_cons, List.take_zero]
  refine wpHeld_cons (.slice (some ⟨w.heap.size + 1, 0, none⟩) 32 32) (by kernel_rfl) ?_ ?_
  · rintro w' -
    try go_simp
  refine wpHeld_nil ?_
  go_simp
  refine wpAnyH_one (i := 0) (by kernel_rfl) rfl (by kernel_rfl) (fun K' hK' => ?_)
  go_simp
  refine hK' _ _ trivial ?_
  clear hK' K'
  have hE := Byts.empty W1.drew
  have hEB : Below W1.heap.size W1 (W1.drew.alloc (.cells #[] 5)) := (Below.refl _ _).drew.alloc (Nat.le_refl _) _
  have HE := Lib.hid (show _ ∧ _ from ⟨hE, hEB⟩)
  clear hE hEB
  refine wpAnyH_one (i := 2) (by kernel_rfl) rfl (by kernel_rfl) (fun K' hK' => ?_)
  refine wp_append_brow (.tmp 5) (.tmp 6) rfl W1.heap.size _ [] rfl HE.out.1 _ w.heap.size 0 32 32 L1 rfl (RowB.of_bV h1 (blk_below HD.out.2.1 HE.out.2 (Array.getElem?_eq_some_iff.1 HD.out.2.1).1)) (fun h => by cases h) (by decide) HE.out.2.size ?_
  intro v3 W3 hO3 hB3 hgx
  clear hgx
  rw [List.nil_append] at hO3
  have hE3 := HE.out.2.trans hB3
  refine hK' _ _ trivial ?_
  clear hK' K'
  refine wpAnyH_one (i := 4) (by kernel_rfl) rfl (by kernel_rfl) (fun K' hK' => ?_)
  refine wp_append_brow (.tmp 7) (.tmp 8) rfl W1.heap.size _ L1 rfl hO3 _ (w.heap.size + 1) 0 32 32 L2 rfl (RowB.of_bV h2 (blk_below HD.out.2.2.1 hE3 (Array.getElem?_eq_some_iff.1 HD.out.2.2.1).1)) (fun h => by cases h) (by omega) hE3.size ?_
  intro v4 W4 hO4 hB4 hgx
  clear hgx
  have hB4 := hE3.trans hB4
  obtain ⟨a4, b4, c4, rfl, hR4, hc4, hm4⟩ := hO4.row
  rw [show (L1 ++ L2).length = 64 by rw [List.length_append, h1, h2]] at hR4 hc4 ⊢
  have hd4 := blk_below HD.out.1 hB4 (Array.getElem?_eq_some_iff.1 HD.out.1).1
  have hB4' := below_after HD.out.2.2.2 hB4 HD.out.2.2.2.size
  have HB4 := Lib.hid (show _ ∧ _ ∧ _ from ⟨hB4', hR4, hd4⟩)
  clear hd4 hB4' hB4 hR4 HD HE hE3 hO3 hO4 hB3
  refine hK' _ _ trivial ?_
  clear hK' K'
  refine wpAnyH_one (i := 5) (by kernel_rfl) rfl (by kernel_rfl) (fun K' hK' => ?_)
  go_simp
  refine (rtagged_any ⟨#[99, 104, 97, 105, 110]⟩ _ b4 0 64 c4 (L1 ++ L2) _ HB4.out.2.1 (fun h => by have := HB4.out.2.1.adr (by omega); rw [h] at this; cases this) (by decide) (by decide)).mono ?_
  rintro e W5 ⟨rfl, hb5⟩
  have hd5 := blk_below HB4.out.2.2 hb5 (Array.getElem?_eq_some_iff.1 HB4.out.2.2).1
  have hB5 := below_after HB4.out.1 hb5 HB4.out.1.size
  have HG := Lib.hid (show _ ∧ _ from ⟨hd5, hB5⟩)
  clear hd5 hB5 hb5 HB4
  refine hK' _ _ trivial ?_
  clear hK' K'
  refine wpAnyH_one (i := 6) (by kernel_rfl) rfl (by kernel_rfl) (fun K' hK' => ?_)
  refine wp_store_row 26 (.tmp 4) (.tmp 10) rfl (w.heap.size + 2) (dgV (tagS ⟨#[99, 104, 97, 105, 110]⟩ (L1 ++ L2))) rfl rfl 26 _ HG.out.1 (by rw [dgV_size]; kernel_rfl) (by rw [dgV_size]; rfl) (dgV_one _) ?_
  have hD4 := setRow_heap W5 (w.heap.size + 2) _ (dgV (tagS ⟨#[99, 104, 97, 105, 110]⟩ (L1 ++ L2))) 26 (0, 0) HG.out.1
  have hB6 := below_setRow HG.out.2 (show w.heap.size ≤ w.heap.size + 2 by omega) (dgV (tagS ⟨#[99, 104, 97, 105, 110]⟩ (L1 ++ L2)))
  generalize W5.setRow (w.heap.size + 2) (dgV (tagS ⟨#[99, 104, 97, 105, 110]⟩ (L1 ++ L2))) = W6 at *
  go_simp
  refine hK' _ _ trivial ?_
  clear hK' K'
  refine wpAnyH_done (by kernel_rfl) ?_ _
  refine NoPanic.normal ?_
  go_wp2
  refine bodyPost_ret (v := .agg (dgV (tagS ⟨#[99, 104, 97, 105, 110]⟩ (L1 ++ L2)))) ?_ rfl ⟨rfl, hB6⟩
  exact results_cell_row Tryd.results26 _ _ (w.heap.size + 2) 26 (dgV (tagS ⟨#[99, 104, 97, 105, 110]⟩ (L1 ++ L2))) (0, 0) _ rfl hD4 Tryd.underlying26 rfl (by rw [dgV_size]; kernel_rfl)
end Go.Proofs.YthbjjfblapfjdaaDoor
