/- pair, leaf, Chain (layer 2). -/
import Derived.Test.YthbjjfblapfjdaaDoorDigTg
import Derived.Test.YthbjjfblapfjdaaDoorDigRTg
namespace Go.Proofs.YthbjjfblapfjdaaDoor
open Go.ChangeShapes Go.WideShapes Go.ChangeAt Go.RowKit
/-- A digest as a value. -/
def bV (L : List Int) : Array Value := (L.map (Value.int .u8)).toArray
theorem bV_size (L : List Int) : (bV L).size = L.length := by simp [bV]
theorem bV_dg (s : St) : dgV s = bV (dgL s) := by simp [dgV, bV, dgL]
theorem bV_one (L : List Int) : (bV L).all (·.oneCell') = true := by
  rw [Array.all_eq_true']
  intro v hv
  simp [bV] at hv
  obtain ⟨x, _, rfl⟩ := hv
  rfl
theorem RowB.of_bV {w : World} {g : Nat} {L : List Int} {t : TypeId} (hL : L.length = 32) (h : w.heap[g]? = some (.cells (bV L) t (0, 0))) : RowB w (some ⟨g, 0, none⟩) g 0 32 L :=
  ⟨hL, fun _ => rfl, fun _ => (Array.getElem?_eq_some_iff.1 h).1, fun i hi => by
    rw [Nat.zero_add]
    exact (blk_cell h i).trans (map_at L (by omega))⟩
set_option maxRecDepth 100000 in
set_option maxHeartbeats 4000000 in
theorem leaf_any (L : List Int) (hL : L.length = 32) (w : World) (hK : Keys w) :
    Calls Tryd.prog 32 #[.agg (bV L)] w fun e w' => e = .returned (.agg (dgV (tagS ⟨#[108, 101, 97, 102]⟩ L))) ∧ Below w.heap.size w w' := by
  have HK := Lib.hid hK
  clear hK
  go_enter Tryd.func32, Tryd.ntmps32
  go_upto_region 1 with fail
  have hb := blk_alloc (blk_new w (.cells (bV L) 26)) (.cells (List.toArray (.int .u8 0 :: .int .u8 0 :: .int .u8 0 :: .int .u8 0 :: .int .u8 0 :: .int .u8 0 :: .int .u8 0 :: .int .u8 0 :: .int .u8 0 :: .int .u8 0 :: .int .u8 0 :: .int .u8 0 :: .int .u8 0 :: .int .u8 0 :: .int .u8 0 :: .int .u8 0 :: .int .u8 0 :: .int .u8 0 :: .int .u8 0 :: .int .u8 0 :: .int .u8 0 :: .int .u8 0 :: .int .u8 0 :: .int .u8 0 :: .int .u8 0 :: .int .u8 0 :: .int .u8 0 :: .int .u8 0 :: .int .u8 0 :: .int .u8 0 :: .int .u8 0 :: .int .u8 0 :: [])) 26)
  have hd := blkN (W := w.alloc (.cells (bV L) 26)) (o := .cells (List.toArray (.int .u8 0 :: .int .u8 0 :: .int .u8 0 :: .int .u8 0 :: .int .u8 0 :: .int .u8 0 :: .int .u8 0 :: .int .u8 0 :: .int .u8 0 :: .int .u8 0 :: .int .u8 0 :: .int .u8 0 :: .int .u8 0 :: .int .u8 0 :: .int .u8 0 :: .int .u8 0 :: .int .u8 0 :: .int .u8 0 :: .int .u8 0 :: .int .u8 0 :: .int .u8 0 :: .int .u8 0 :: .int .u8 0 :: .int .u8 0 :: .int .u8 0 :: .int .u8 0 :: .int .u8 0 :: .int .u8 0 :: .int .u8 0 :: .int .u8 0 :: .int .u8 0 :: .int .u8 0 :: [])) 26) (k := w.heap.size + 1) (by simp)
  have hB : Below w.heap.size w ((w.alloc (.cells (bV L) 26)).alloc (.cells (List.toArray (.int .u8 0 :: .int .u8 0 :: .int .u8 0 :: .int .u8 0 :: .int .u8 0 :: .int .u8 0 :: .int .u8 0 :: .int .u8 0 :: .int .u8 0 :: .int .u8 0 :: .int .u8 0 :: .int .u8 0 :: .int .u8 0 :: .int .u8 0 :: .int .u8 0 :: .int .u8 0 :: .int .u8 0 :: .int .u8 0 :: .int .u8 0 :: .int .u8 0 :: .int .u8 0 :: .int .u8 0 :: .int .u8 0 :: .int .u8 0 :: .int .u8 0 :: .int .u8 0 :: .int .u8 0 :: .int .u8 0 :: .int .u8 0 :: .int .u8 0 :: .int .u8 0 :: .int .u8 0 :: [])) 26)) := ((Below.refl _ _).alloc (Nat.le_refl _) _).alloc (by simp) _
  have HD := Lib.hid (show _ ∧ _ ∧ _ from ⟨hd, hb, hB⟩)
  clear hd hb hB
  generalize (w.alloc (.cells (bV L) 26)).alloc (.cells (List.toArray (.int .u8 0 :: .int .u8 0 :: .int .u8 0 :: .int .u8 0 :: .int .u8 0 :: .int .u8 0 :: .int .u8 0 :: .int .u8 0 :: .int .u8 0 :: .int .u8 0 :: .int .u8 0 :: .int .u8 0 :: .int .u8 0 :: .int .u8 0 :: .int .u8 0 :: .int .u8 0 :: .int .u8 0 :: .int .u8 0 :: .int .u8 0 :: .int .u8 0 :: .int .u8 0 :: .int .u8 0 :: .int .u8 0 :: .int .u8 0 :: .int .u8 0 :: .int .u8 0 :: .int .u8 0 :: .int .u8 0 :: .int .u8 0 :: .int .u8 0 :: .int .u8 0 :: .int .u8 0 :: [])) 26) = W1 at *
  go_wp2_with fail
  refine (tagged_any ⟨#[108, 101, 97, 102]⟩ _ w.heap.size 0 32 32 L _ (HK.out.below HD.out.2.2) (RowB.of_bV hL HD.out.2.1) (fun h => by cases h) (by decide) (by decide)).mono ?_
  rintro e W5 ⟨rfl, hb5⟩
  have hd5 := blk_below HD.out.1 hb5 (Array.getElem?_eq_some_iff.1 HD.out.1).1
  have hB5 := below_after HD.out.2.2 hb5 HD.out.2.2.size
  have HG := Lib.hid (show _ ∧ _ from ⟨hd5, hB5⟩)
  clear hd5 hB5 hb5
  go_wp2_with (with_reducible refine held (o := ⟨none, _, _, _, _, _⟩) ?_)
  unfold Held
  refine wpList_store_row rfl _ (.tmp 2) (.tmp 4) rfl (w.heap.size + 1) (dgV (tagS ⟨#[108, 101, 97, 102]⟩ L)) rfl rfl 26 _ HG.out.1 (by rw [dgV_size]; kernel_rfl) (by rw [dgV_size]; rfl) (dgV_one _) ?_
  have hD4 := setRow_heap W5 (w.heap.size + 1) _ (dgV (tagS ⟨#[108, 101, 97, 102]⟩ L)) 26 (0, 0) HG.out.1
  have hB6 := below_setRow HG.out.2 (show w.heap.size ≤ w.heap.size + 1 by omega) (dgV (tagS ⟨#[108, 101, 97, 102]⟩ L))
  generalize W5.setRow (w.heap.size + 1) (dgV (tagS ⟨#[108, 101, 97, 102]⟩ L)) = W6 at *
  go_wp2
  refine bodyPost_ret (v := .agg (dgV (tagS ⟨#[108, 101, 97, 102]⟩ L))) ?_ rfl ⟨rfl, hB6⟩
  exact results_cell_row Tryd.results32 _ _ (w.heap.size + 1) 26 (dgV (tagS ⟨#[108, 101, 97, 102]⟩ L)) (0, 0) _ rfl hD4 Tryd.underlying26 rfl (by rw [dgV_size]; kernel_rfl)
set_option maxRecDepth 100000 in
set_option maxHeartbeats 4000000 in
theorem pair_any (s : ByteArray) (L1 L2 : List Int) (h1 : L1.length = 32) (h2 : L2.length = 32) (hs : s.size ≤ 900000) (w : World) (hK : Keys w) :
    Calls Tryd.prog 34 #[.string s, .agg (bV L1), .agg (bV L2)] w fun e w' => e = .returned (.agg (dgV (tagS s (L1 ++ L2)))) ∧ Below w.heap.size w w' := by
  have HK := Lib.hid hK
  clear hK
  go_enter Tryd.func34, Tryd.ntmps34
  go_upto_region 1 with fail
  have hb := blk_alloc (blk_alloc (blk_new w (.cells (bV L1) 26)) (.cells (bV L2) 26)) (.cells (List.toArray (.int .u8 0 :: .int .u8 0 :: .int .u8 0 :: .int .u8 0 :: .int .u8 0 :: .int .u8 0 :: .int .u8 0 :: .int .u8 0 :: .int .u8 0 :: .int .u8 0 :: .int .u8 0 :: .int .u8 0 :: .int .u8 0 :: .int .u8 0 :: .int .u8 0 :: .int .u8 0 :: .int .u8 0 :: .int .u8 0 :: .int .u8 0 :: .int .u8 0 :: .int .u8 0 :: .int .u8 0 :: .int .u8 0 :: .int .u8 0 :: .int .u8 0 :: .int .u8 0 :: .int .u8 0 :: .int .u8 0 :: .int .u8 0 :: .int .u8 0 :: .int .u8 0 :: .int .u8 0 :: [])) 26)
  have hc := blk_alloc (blkN (W := w.alloc (.cells (bV L1) 26)) (o := .cells (bV L2) 26) (k := w.heap.size + 1) (by simp)) (.cells (List.toArray (.int .u8 0 :: .int .u8 0 :: .int .u8 0 :: .int .u8 0 :: .int .u8 0 :: .int .u8 0 :: .int .u8 0 :: .int .u8 0 :: .int .u8 0 :: .int .u8 0 :: .int .u8 0 :: .int .u8 0 :: .int .u8 0 :: .int .u8 0 :: .int .u8 0 :: .int .u8 0 :: .int .u8 0 :: .int .u8 0 :: .int .u8 0 :: .int .u8 0 :: .int .u8 0 :: .int .u8 0 :: .int .u8 0 :: .int .u8 0 :: .int .u8 0 :: .int .u8 0 :: .int .u8 0 :: .int .u8 0 :: .int .u8 0 :: .int .u8 0 :: .int .u8 0 :: .int .u8 0 :: [])) 26)
  have hd := blkN (W := (w.alloc (.cells (bV L1) 26)).alloc (.cells (bV L2) 26)) (o := .cells (List.toArray (.int .u8 0 :: .int .u8 0 :: .int .u8 0 :: .int .u8 0 :: .int .u8 0 :: .int .u8 0 :: .int .u8 0 :: .int .u8 0 :: .int .u8 0 :: .int .u8 0 :: .int .u8 0 :: .int .u8 0 :: .int .u8 0 :: .int .u8 0 :: .int .u8 0 :: .int .u8 0 :: .int .u8 0 :: .int .u8 0 :: .int .u8 0 :: .int .u8 0 :: .int .u8 0 :: .int .u8 0 :: .int .u8 0 :: .int .u8 0 :: .int .u8 0 :: .int .u8 0 :: .int .u8 0 :: .int .u8 0 :: .int .u8 0 :: .int .u8 0 :: .int .u8 0 :: .int .u8 0 :: [])) 26) (k := w.heap.size + 2) (by simp)
  have hB : Below w.heap.size w (((w.alloc (.cells (bV L1) 26)).alloc (.cells (bV L2) 26)).alloc (.cells (List.toArray (.int .u8 0 :: .int .u8 0 :: .int .u8 0 :: .int .u8 0 :: .int .u8 0 :: .int .u8 0 :: .int .u8 0 :: .int .u8 0 :: .int .u8 0 :: .int .u8 0 :: .int .u8 0 :: .int .u8 0 :: .int .u8 0 :: .int .u8 0 :: .int .u8 0 :: .int .u8 0 :: .int .u8 0 :: .int .u8 0 :: .int .u8 0 :: .int .u8 0 :: .int .u8 0 :: .int .u8 0 :: .int .u8 0 :: .int .u8 0 :: .int .u8 0 :: .int .u8 0 :: .int .u8 0 :: .int .u8 0 :: .int .u8 0 :: .int .u8 0 :: .int .u8 0 :: .int .u8 0 :: [])) 26)) := (((Below.refl _ _).alloc (Nat.le_refl _) _).alloc (by simp) _).alloc (by simp; omega) _
  have HD := Lib.hid (show _ ∧ _ ∧ _ ∧ _ from ⟨hd, hb, hc, hB⟩)
  clear hd hb hc hB
  generalize ((w.alloc (.cells (bV L1) 26)).alloc (.cells (bV L2) 26)).alloc (.cells (List.toArray (.int .u8 0 :: .int .u8 0 :: .int .u8 0 :: .int .u8 0 :: .int .u8 0 :: .int .u8 0 :: .int .u8 0 :: .int .u8 0 :: .int .u8 0 :: .int .u8 0 :: .int .u8 0 :: .int .u8 0 :: .int .u8 0 :: .int .u8 0 :: .int .u8 0 :: .int .u8 0 :: .int .u8 0 :: .int .u8 0 :: .int .u8 0 :: .int .u8 0 :: .int .u8 0 :: .int .u8 0 :: .int .u8 0 :: .int .u8 0 :: .int .u8 0 :: .int .u8 0 :: .int .u8 0 :: .int .u8 0 :: .int .u8 0 :: .int .u8 0 :: .int .u8 0 :: .int .u8 0 :: [])) 26) = W1 at *
  refine wp_region_from 0 3 (fun w' => True) (by kernel_rfl) (by kernel_rfl) (by decide) (by kernel_rfl) trivial ?_
  simp only [List.drop_zero, List.take_succ_cons, List.take_zero]
  refine wpHeld_cons (.string s) (by kernel_rfl) ?_ ?_
  · rintro w' -
    try go_simp
  refine wpHeld_cons (.slice (some ⟨w.heap.size, 0, none⟩) 32 32) (by kernel_rfl) ?_ ?_
  · rintro w' -
    try go_simp
  refine wpHeld_cons (.slice (some ⟨w.heap.size + 1, 0, none⟩) 32 32) (by kernel_rfl) ?_ ?_
  · rintro w' -
    try go_simp
  refine wpHeld_nil ?_
  go_simp
  refine wpAnyH_one (i := 3) (by kernel_rfl) rfl (by kernel_rfl) (fun K' hK' => ?_)
  refine wp_append_full (.tmp 8) (.tmp 9) rfl w.heap.size 32 L1 rfl (RowB.of_bV h1 HD.out.2.1) _ (w.heap.size + 1) 0 32 32 L2 rfl (RowB.of_bV h2 HD.out.2.2.1) (fun h => by cases h) (by decide) ?_
  intro b4 c4 W4 hR4 hc4 hB4
  have hB4 : Below W1.heap.size W1 W4 := (Below.refl _ _).drew.trans hB4
  have hd4 := blk_below HD.out.1 hB4 (Array.getElem?_eq_some_iff.1 HD.out.1).1
  have hB4' := below_after HD.out.2.2.2 hB4 HD.out.2.2.2.size
  have HB4 := Lib.hid (show _ ∧ _ ∧ _ from ⟨hB4', hR4, hd4⟩)
  clear hd4 hB4' hB4 hR4 HD
  refine hK' _ _ trivial ?_
  clear hK' K'
  refine wpAnyH_one (i := 4) (by kernel_rfl) rfl (by kernel_rfl) (fun K' hK' => ?_)
  go_simp
  refine (tagged_any s _ b4 0 (32 + 32) c4 (L1 ++ L2) _ (HK.out.below HB4.out.1) HB4.out.2.1 (fun h => by cases h) hs (by decide)).mono ?_
  rintro e W5 ⟨rfl, hb5⟩
  have hd5 := blk_below HB4.out.2.2 hb5 (Array.getElem?_eq_some_iff.1 HB4.out.2.2).1
  have hB5 := below_after HB4.out.1 hb5 HB4.out.1.size
  have HG := Lib.hid (show _ ∧ _ from ⟨hd5, hB5⟩)
  clear hd5 hB5 hb5 HB4
  refine hK' _ _ trivial ?_
  clear hK' K'
  refine wpAnyH_one (i := 5) (by kernel_rfl) rfl (by kernel_rfl) (fun K' hK' => ?_)
  refine wp_store_row 26 (.tmp 6) (.tmp 11) rfl (w.heap.size + 2) (dgV (tagS s (L1 ++ L2))) rfl rfl 26 _ HG.out.1 (by rw [dgV_size]; kernel_rfl) (by rw [dgV_size]; rfl) (dgV_one _) ?_
  have hD4 := setRow_heap W5 (w.heap.size + 2) _ (dgV (tagS s (L1 ++ L2))) 26 (0, 0) HG.out.1
  have hB6 := below_setRow HG.out.2 (show w.heap.size ≤ w.heap.size + 2 by omega) (dgV (tagS s (L1 ++ L2)))
  generalize W5.setRow (w.heap.size + 2) (dgV (tagS s (L1 ++ L2))) = W6 at *
  go_simp
  refine hK' _ _ trivial ?_
  clear hK' K'
  refine wpAnyH_done (by kernel_rfl) ?_ _
  refine NoPanic.normal ?_
  go_wp2
  refine bodyPost_ret (v := .agg (dgV (tagS s (L1 ++ L2)))) ?_ rfl ⟨rfl, hB6⟩
  exact results_cell_row Tryd.results34 _ _ (w.heap.size + 2) 26 (dgV (tagS s (L1 ++ L2))) (0, 0) _ rfl hD4 Tryd.underlying26 rfl (by rw [dgV_size]; kernel_rfl)
set_option maxRecDepth 100000 in
set_option maxHeartbeats 4000000 in
theorem chain_any (L1 L2 : List Int) (h1 : L1.length = 32) (h2 : L2.length = 32) (w : World) (hK : Keys w) :
    Calls Tryd.prog 25 #[.agg (bV L1), .agg (bV L2)] w fun e w' => e = .returned (.agg (dgV (tagS ⟨#[99, 104, 97, 105, 110]⟩ (L1 ++ L2)))) ∧ Below w.heap.size w w' := by
  have HK := Lib.hid hK
  clear hK
  go_enter Tryd.func25, Tryd.ntmps25
  go_upto_region 1 with fail
  have hb := blk_alloc (blk_alloc (blk_new w (.cells (bV L1) 26)) (.cells (bV L2) 26)) (.cells (List.toArray (.int .u8 0 :: .int .u8 0 :: .int .u8 0 :: .int .u8 0 :: .int .u8 0 :: .int .u8 0 :: .int .u8 0 :: .int .u8 0 :: .int .u8 0 :: .int .u8 0 :: .int .u8 0 :: .int .u8 0 :: .int .u8 0 :: .int .u8 0 :: .int .u8 0 :: .int .u8 0 :: .int .u8 0 :: .int .u8 0 :: .int .u8 0 :: .int .u8 0 :: .int .u8 0 :: .int .u8 0 :: .int .u8 0 :: .int .u8 0 :: .int .u8 0 :: .int .u8 0 :: .int .u8 0 :: .int .u8 0 :: .int .u8 0 :: .int .u8 0 :: .int .u8 0 :: .int .u8 0 :: [])) 26)
  have hc := blk_alloc (blkN (W := w.alloc (.cells (bV L1) 26)) (o := .cells (bV L2) 26) (k := w.heap.size + 1) (by simp)) (.cells (List.toArray (.int .u8 0 :: .int .u8 0 :: .int .u8 0 :: .int .u8 0 :: .int .u8 0 :: .int .u8 0 :: .int .u8 0 :: .int .u8 0 :: .int .u8 0 :: .int .u8 0 :: .int .u8 0 :: .int .u8 0 :: .int .u8 0 :: .int .u8 0 :: .int .u8 0 :: .int .u8 0 :: .int .u8 0 :: .int .u8 0 :: .int .u8 0 :: .int .u8 0 :: .int .u8 0 :: .int .u8 0 :: .int .u8 0 :: .int .u8 0 :: .int .u8 0 :: .int .u8 0 :: .int .u8 0 :: .int .u8 0 :: .int .u8 0 :: .int .u8 0 :: .int .u8 0 :: .int .u8 0 :: [])) 26)
  have hd := blkN (W := (w.alloc (.cells (bV L1) 26)).alloc (.cells (bV L2) 26)) (o := .cells (List.toArray (.int .u8 0 :: .int .u8 0 :: .int .u8 0 :: .int .u8 0 :: .int .u8 0 :: .int .u8 0 :: .int .u8 0 :: .int .u8 0 :: .int .u8 0 :: .int .u8 0 :: .int .u8 0 :: .int .u8 0 :: .int .u8 0 :: .int .u8 0 :: .int .u8 0 :: .int .u8 0 :: .int .u8 0 :: .int .u8 0 :: .int .u8 0 :: .int .u8 0 :: .int .u8 0 :: .int .u8 0 :: .int .u8 0 :: .int .u8 0 :: .int .u8 0 :: .int .u8 0 :: .int .u8 0 :: .int .u8 0 :: .int .u8 0 :: .int .u8 0 :: .int .u8 0 :: .int .u8 0 :: [])) 26) (k := w.heap.size + 2) (by simp)
  have hB : Below w.heap.size w (((w.alloc (.cells (bV L1) 26)).alloc (.cells (bV L2) 26)).alloc (.cells (List.toArray (.int .u8 0 :: .int .u8 0 :: .int .u8 0 :: .int .u8 0 :: .int .u8 0 :: .int .u8 0 :: .int .u8 0 :: .int .u8 0 :: .int .u8 0 :: .int .u8 0 :: .int .u8 0 :: .int .u8 0 :: .int .u8 0 :: .int .u8 0 :: .int .u8 0 :: .int .u8 0 :: .int .u8 0 :: .int .u8 0 :: .int .u8 0 :: .int .u8 0 :: .int .u8 0 :: .int .u8 0 :: .int .u8 0 :: .int .u8 0 :: .int .u8 0 :: .int .u8 0 :: .int .u8 0 :: .int .u8 0 :: .int .u8 0 :: .int .u8 0 :: .int .u8 0 :: .int .u8 0 :: [])) 26)) := (((Below.refl _ _).alloc (Nat.le_refl _) _).alloc (by simp) _).alloc (by simp; omega) _
  have HD := Lib.hid (show _ ∧ _ ∧ _ ∧ _ from ⟨hd, hb, hc, hB⟩)
  clear hd hb hc hB
  generalize ((w.alloc (.cells (bV L1) 26)).alloc (.cells (bV L2) 26)).alloc (.cells (List.toArray (.int .u8 0 :: .int .u8 0 :: .int .u8 0 :: .int .u8 0 :: .int .u8 0 :: .int .u8 0 :: .int .u8 0 :: .int .u8 0 :: .int .u8 0 :: .int .u8 0 :: .int .u8 0 :: .int .u8 0 :: .int .u8 0 :: .int .u8 0 :: .int .u8 0 :: .int .u8 0 :: .int .u8 0 :: .int .u8 0 :: .int .u8 0 :: .int .u8 0 :: .int .u8 0 :: .int .u8 0 :: .int .u8 0 :: .int .u8 0 :: .int .u8 0 :: .int .u8 0 :: .int .u8 0 :: .int .u8 0 :: .int .u8 0 :: .int .u8 0 :: .int .u8 0 :: .int .u8 0 :: [])) 26) = W1 at *
  refine wp_region_lit ?_
  refine wpList_load_row rfl _ (.tmp 2) rfl w.heap.size rfl 26 (bV L1) (0, 0) _ HD.out.2.1 Tryd.underlying26 rfl (by rw [bV_size, h1]; kernel_rfl) ?_
  refine wpList_load_row rfl _ (.tmp 3) rfl (w.heap.size + 1) rfl 26 (bV L2) (0, 0) _ HD.out.2.2.1 Tryd.underlying26 rfl (by rw [bV_size, h2]; kernel_rfl) ?_
  go_wp2_with fail
  refine (pair_any ⟨#[99, 104, 97, 105, 110]⟩ L1 L2 h1 h2 (by decide) _ (HK.out.below HD.out.2.2.2)).mono ?_
  rintro e W5 ⟨rfl, hb5⟩
  have hd5 := blk_below HD.out.1 hb5 (Array.getElem?_eq_some_iff.1 HD.out.1).1
  have hB5 := below_after HD.out.2.2.2 hb5 HD.out.2.2.2.size
  have HG := Lib.hid (show _ ∧ _ from ⟨hd5, hB5⟩)
  clear hd5 hB5 hb5
  go_wp2_with (with_reducible refine held (o := ⟨none, _, _, _, _, _⟩) ?_)
  unfold Held
  refine wpList_store_row rfl _ (.tmp 4) (.tmp 7) rfl (w.heap.size + 2) (dgV (tagS ⟨#[99, 104, 97, 105, 110]⟩ (L1 ++ L2))) rfl rfl 26 _ HG.out.1 (by rw [dgV_size]; kernel_rfl) (by rw [dgV_size]; rfl) (dgV_one _) ?_
  have hD4 := setRow_heap W5 (w.heap.size + 2) _ (dgV (tagS ⟨#[99, 104, 97, 105, 110]⟩ (L1 ++ L2))) 26 (0, 0) HG.out.1
  have hB6 := below_setRow HG.out.2 (show w.heap.size ≤ w.heap.size + 2 by omega) (dgV (tagS ⟨#[99, 104, 97, 105, 110]⟩ (L1 ++ L2)))
  generalize W5.setRow (w.heap.size + 2) (dgV (tagS ⟨#[99, 104, 97, 105, 110]⟩ (L1 ++ L2))) = W6 at *
  go_wp2
  refine bodyPost_ret (v := .agg (dgV (tagS ⟨#[99, 104, 97, 105, 110]⟩ (L1 ++ L2)))) ?_ rfl ⟨rfl, hB6⟩
  exact results_cell_row Tryd.results25 _ _ (w.heap.size + 2) 26 (dgV (tagS ⟨#[99, 104, 97, 105, 110]⟩ (L1 ++ L2))) (0, 0) _ rfl hD4 Tryd.underlying26 rfl (by rw [dgV_size]; kernel_rfl)
end Go.Proofs.YthbjjfblapfjdaaDoor
