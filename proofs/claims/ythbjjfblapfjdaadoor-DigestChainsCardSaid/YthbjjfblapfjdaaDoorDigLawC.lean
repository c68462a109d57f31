/- DigestChains (layer 2). -/
import Derived.Test.YthbjjfblapfjdaaDoorDigThree
import Derived.Deep.Cut
namespace Go.Proofs.YthbjjfblapfjdaaDoor
open Go.ChangeShapes Go.WideShapes Go.ChangeAt Go.RowKit
set_option maxRecDepth 100000 in
set_option maxHeartbeats 40000000 in
theorem chains_walk (F : List Int) (hF : F.length = 32) (a : Option Addr) (b off n cap : Nat) (l : List Int) (w : World) (hK : Keys w) (hR : RowB w a b off n l) (hn : n ≤ 9223372036854775807) :
    Calls Tryd.prog 10 #[.agg (bV F), .slice a n cap] w fun e w' => e = .returned (.bool true) ∧ Below w.heap.size w w' := by
  have hK0 := hK.1
  have HR0 := Lib.hid (show _ ∧ _ from ⟨hR, hK⟩)
  clear hR hK
  go_enter Tryd.func10, Tryd.ntmps10
  go_upto_region 1 with fail
  have hb := blk_new w (.cells (bV F) 26)
  have hB : Below w.heap.size w (w.alloc (.cells (bV F) 26)) := (Below.refl _ _).alloc (Nat.le_refl _) _
  have HA := Lib.hid (show _ ∧ _ ∧ Keys _ from ⟨hb, hB, HR0.out.2.below hB⟩)
  clear hb hB
  generalize w.alloc (.cells (bV F) 26) = WA at *
  go_wp2_with (go_at_call 11; refine (sane_any _ HA.out.2.2).mono ?_; rintro e WS ⟨rfl, hbS⟩)
  have hbw := HA.out.2.1.trans (hbS.mono HA.out.2.1.size)
  have HW := Lib.hid (show _ ∧ Below w.heap.size w WS ∧ Keys WS from ⟨blk_below HA.out.1 hbS (blk_lt HA.out.1), hbw, HA.out.2.2.below hbS⟩)
  clear hbw hbS HA
  generalize hWS : WS = W0 at *
  clear hWS
  go_upto_region 3 with fail
  go_cut [5, 6] from 7 (fun s5 s6 wx => TwoD F F W0 s5 s6 wx)
  case first =>
    refine wp_region_from 0 2 (fun w' => Below W0.heap.size W0 w') (by kernel_rfl) (by kernel_rfl) (by decide) (by kernel_rfl) ((Below.refl _ _).drew) ?_
    simp only [List.drop_zero, List.take_succ_cons, List.take_zero]
    refine wpHeld_load (.tmp 2) (by kernel_rfl) (by kernel_rfl) (w.heap.size) (0) (by kernel_rfl) (F) hF (fun w' hS => (RowB.of_bV hF (blk_below HW.out.1 hS (blk_lt HW.out.1))).range) ?_
    refine wpHeld_load (.tmp 2) (by kernel_rfl) (by kernel_rfl) (w.heap.size) (0) (by kernel_rfl) (F) hF (fun w' hS => (RowB.of_bV hF (blk_below HW.out.1 hS (blk_lt HW.out.1))).range) ?_
    refine wpHeld_nil ?_
    go_simp
    have H0 := Lib.hid (show Below W0.heap.size W0 W0.drew from (Below.refl _ _).drew)
    refine wpAnyH_two (i := 2) (j := 3) (by kernel_rfl) rfl rfl (by kernel_rfl) (by kernel_rfl) (fun K' hK' => ?_) (fun K' hK' => ?_)
    · go_simp
      have HO1 := Lib.hid (show Below W0.heap.size W0 _ ∧ W0.heap.size ≤ W0.heap.size ∧ _ from ⟨((Below.refl W0.heap.size W0).alloc (Nat.le_refl _) (.cells (List.toArray (.int .u8 0 :: .int .u8 0 :: .int .u8 0 :: .int .u8 0 :: .int .u8 0 :: .int .u8 0 :: .int .u8 0 :: .int .u8 0 :: .int .u8 0 :: .int .u8 0 :: .int .u8 0 :: .int .u8 0 :: .int .u8 0 :: .int .u8 0 :: .int .u8 0 :: .int .u8 0 :: .int .u8 0 :: .int .u8 0 :: .int .u8 0 :: .int .u8 0 :: .int .u8 0 :: .int .u8 0 :: .int .u8 0 :: .int .u8 0 :: .int .u8 0 :: .int .u8 0 :: .int .u8 0 :: .int .u8 0 :: .int .u8 0 :: .int .u8 0 :: .int .u8 0 :: .int .u8 0 :: [])) 26)).drew, Nat.le_refl _, blk_drew (blk_new W0 (.cells (List.toArray (.int .u8 0 :: .int .u8 0 :: .int .u8 0 :: .int .u8 0 :: .int .u8 0 :: .int .u8 0 :: .int .u8 0 :: .int .u8 0 :: .int .u8 0 :: .int .u8 0 :: .int .u8 0 :: .int .u8 0 :: .int .u8 0 :: .int .u8 0 :: .int .u8 0 :: .int .u8 0 :: .int .u8 0 :: .int .u8 0 :: .int .u8 0 :: .int .u8 0 :: .int .u8 0 :: .int .u8 0 :: .int .u8 0 :: .int .u8 0 :: .int .u8 0 :: .int .u8 0 :: .int .u8 0 :: .int .u8 0 :: .int .u8 0 :: .int .u8 0 :: .int .u8 0 :: .int .u8 0 :: [])) 26))⟩)
      generalize (W0.alloc (.cells (List.toArray (.int .u8 0 :: .int .u8 0 :: .int .u8 0 :: .int .u8 0 :: .int .u8 0 :: .int .u8 0 :: .int .u8 0 :: .int .u8 0 :: .int .u8 0 :: .int .u8 0 :: .int .u8 0 :: .int .u8 0 :: .int .u8 0 :: .int .u8 0 :: .int .u8 0 :: .int .u8 0 :: .int .u8 0 :: .int .u8 0 :: .int .u8 0 :: .int .u8 0 :: .int .u8 0 :: .int .u8 0 :: .int .u8 0 :: .int .u8 0 :: .int .u8 0 :: .int .u8 0 :: .int .u8 0 :: .int .u8 0 :: .int .u8 0 :: .int .u8 0 :: .int .u8 0 :: .int .u8 0 :: [])) 26)).drew = WO1 at *
      refine hK' _ _ (HO1.out.1) ?_
      clear hK' K'
      go_simp
      refine wpAnyH_one (i := 3) (by kernel_rfl) rfl (by kernel_rfl) (fun K' hK' => ?_)
      go_simp
      have HO2 := Lib.hid (show Below W0.heap.size W0 _ ∧ W0.heap.size ≤ W0.heap.size ∧ _ ∧ W0.heap.size ≠ WO1.heap.size ∧ W0.heap.size ≤ WO1.heap.size ∧ _ from ⟨HO1.out.1.alloc HO1.out.1.size (.cells (List.toArray (.int .u8 0 :: .int .u8 0 :: .int .u8 0 :: .int .u8 0 :: .int .u8 0 :: .int .u8 0 :: .int .u8 0 :: .int .u8 0 :: .int .u8 0 :: .int .u8 0 :: .int .u8 0 :: .int .u8 0 :: .int .u8 0 :: .int .u8 0 :: .int .u8 0 :: .int .u8 0 :: .int .u8 0 :: .int .u8 0 :: .int .u8 0 :: .int .u8 0 :: .int .u8 0 :: .int .u8 0 :: .int .u8 0 :: .int .u8 0 :: .int .u8 0 :: .int .u8 0 :: .int .u8 0 :: .int .u8 0 :: .int .u8 0 :: .int .u8 0 :: .int .u8 0 :: .int .u8 0 :: [])) 26), HO1.out.2.1, blk_alloc HO1.out.2.2 (.cells (List.toArray (.int .u8 0 :: .int .u8 0 :: .int .u8 0 :: .int .u8 0 :: .int .u8 0 :: .int .u8 0 :: .int .u8 0 :: .int .u8 0 :: .int .u8 0 :: .int .u8 0 :: .int .u8 0 :: .int .u8 0 :: .int .u8 0 :: .int .u8 0 :: .int .u8 0 :: .int .u8 0 :: .int .u8 0 :: .int .u8 0 :: .int .u8 0 :: .int .u8 0 :: .int .u8 0 :: .int .u8 0 :: .int .u8 0 :: .int .u8 0 :: .int .u8 0 :: .int .u8 0 :: .int .u8 0 :: .int .u8 0 :: .int .u8 0 :: .int .u8 0 :: .int .u8 0 :: .int .u8 0 :: [])) 26), other_block HO1.out.2.2 (Nat.le_refl _), HO1.out.1.size, blk_new WO1 (.cells (List.toArray (.int .u8 0 :: .int .u8 0 :: .int .u8 0 :: .int .u8 0 :: .int .u8 0 :: .int .u8 0 :: .int .u8 0 :: .int .u8 0 :: .int .u8 0 :: .int .u8 0 :: .int .u8 0 :: .int .u8 0 :: .int .u8 0 :: .int .u8 0 :: .int .u8 0 :: .int .u8 0 :: .int .u8 0 :: .int .u8 0 :: .int .u8 0 :: .int .u8 0 :: .int .u8 0 :: .int .u8 0 :: .int .u8 0 :: .int .u8 0 :: .int .u8 0 :: .int .u8 0 :: .int .u8 0 :: .int .u8 0 :: .int .u8 0 :: .int .u8 0 :: .int .u8 0 :: .int .u8 0 :: [])) 26)⟩)
      generalize WO1.alloc (.cells (List.toArray (.int .u8 0 :: .int .u8 0 :: .int .u8 0 :: .int .u8 0 :: .int .u8 0 :: .int .u8 0 :: .int .u8 0 :: .int .u8 0 :: .int .u8 0 :: .int .u8 0 :: .int .u8 0 :: .int .u8 0 :: .int .u8 0 :: .int .u8 0 :: .int .u8 0 :: .int .u8 0 :: .int .u8 0 :: .int .u8 0 :: .int .u8 0 :: .int .u8 0 :: .int .u8 0 :: .int .u8 0 :: .int .u8 0 :: .int .u8 0 :: .int .u8 0 :: .int .u8 0 :: .int .u8 0 :: .int .u8 0 :: .int .u8 0 :: .int .u8 0 :: .int .u8 0 :: .int .u8 0 :: [])) 26) = WO2 at *
      refine hK' _ _ (HO2.out.1) ?_
      clear hK' K'
      go_simp
      refine wpAnyH_one (i := 4) (by kernel_rfl) rfl (by kernel_rfl) (fun K' hK' => ?_)
      refine wp_store_row 26 (.tmp 5) (.tmp 12) (by kernel_rfl) W0.heap.size (bV F) (by kernel_rfl) (by kernel_rfl) 26 _ HO2.out.2.2.1 (by rw [bV_size, hF]; kernel_rfl) (by rw [bV_size, hF]; rfl) (bV_one _) ?_
      have hf5 := setRow_heap _ W0.heap.size _ (bV F) 26 (0, 0) HO2.out.2.2.1
      have hf6 := (setRow_other WO2 W0.heap.size WO1.heap.size (bV F) (Ne.symm HO2.out.2.2.2.1)).trans HO2.out.2.2.2.2.2
      have hbw := below_setRow HO2.out.1 HO2.out.2.1 (bV F)
      generalize WO2.setRow W0.heap.size (bV F) = WZ at *
      refine hK' _ _ (hbw) ?_
      clear hK' K'
      go_simp
      refine wpAnyH_one (i := 5) (by kernel_rfl) rfl (by kernel_rfl) (fun K' hK' => ?_)
      refine wp_store_row 26 (.tmp 6) (.tmp 13) (by kernel_rfl) WO1.heap.size (bV F) (by kernel_rfl) (by kernel_rfl) 26 _ hf6 (by rw [bV_size, hF]; kernel_rfl) (by rw [bV_size, hF]; rfl) (bV_one _) ?_
      have hg6 := setRow_heap _ WO1.heap.size _ (bV F) 26 (0, 0) hf6
      have hg5 := (setRow_other WZ WO1.heap.size W0.heap.size (bV F) HO2.out.2.2.2.1).trans hf5
      have hbw2 := below_setRow hbw HO2.out.2.2.2.2.1 (bV F)
      have HM := Lib.hid (show TwoD F F W0 (.pointer (some ⟨W0.heap.size, 0, none⟩)) (.pointer (some ⟨WO1.heap.size, 0, none⟩)) (WZ.setRow WO1.heap.size (bV F)) from ⟨_, _, rfl, rfl, hg5, hg6, hbw2, HO2.out.2.1, HO2.out.2.2.2.2.1, HO2.out.2.2.2.1⟩)
      generalize WZ.setRow WO1.heap.size (bV F) = WY at *
      clear hg6 hg5 hf5 hf6 hbw
      refine hK' _ _ (hbw2) ?_
      clear hK' K'
      go_simp
      refine wpAnyH_done (by kernel_rfl) ?_ _
      refine NoPanic.normal ?_
      go_simp
      go_wp2_with fail
      go_meet
      case rel => exact HM.out
    · go_simp
      have HO3 := Lib.hid (show Below W0.heap.size W0 _ ∧ W0.heap.size ≤ W0.heap.size ∧ _ from ⟨((Below.refl W0.heap.size W0).alloc (Nat.le_refl _) (.cells (List.toArray (.int .u8 0 :: .int .u8 0 :: .int .u8 0 :: .int .u8 0 :: .int .u8 0 :: .int .u8 0 :: .int .u8 0 :: .int .u8 0 :: .int .u8 0 :: .int .u8 0 :: .int .u8 0 :: .int .u8 0 :: .int .u8 0 :: .int .u8 0 :: .int .u8 0 :: .int .u8 0 :: .int .u8 0 :: .int .u8 0 :: .int .u8 0 :: .int .u8 0 :: .int .u8 0 :: .int .u8 0 :: .int .u8 0 :: .int .u8 0 :: .int .u8 0 :: .int .u8 0 :: .int .u8 0 :: .int .u8 0 :: .int .u8 0 :: .int .u8 0 :: .int .u8 0 :: .int .u8 0 :: [])) 26)).drew, Nat.le_refl _, blk_drew (blk_new W0 (.cells (List.toArray (.int .u8 0 :: .int .u8 0 :: .int .u8 0 :: .int .u8 0 :: .int .u8 0 :: .int .u8 0 :: .int .u8 0 :: .int .u8 0 :: .int .u8 0 :: .int .u8 0 :: .int .u8 0 :: .int .u8 0 :: .int .u8 0 :: .int .u8 0 :: .int .u8 0 :: .int .u8 0 :: .int .u8 0 :: .int .u8 0 :: .int .u8 0 :: .int .u8 0 :: .int .u8 0 :: .int .u8 0 :: .int .u8 0 :: .int .u8 0 :: .int .u8 0 :: .int .u8 0 :: .int .u8 0 :: .int .u8 0 :: .int .u8 0 :: .int .u8 0 :: .int .u8 0 :: .int .u8 0 :: [])) 26))⟩)
      generalize (W0.alloc (.cells (List.toArray (.int .u8 0 :: .int .u8 0 :: .int .u8 0 :: .int .u8 0 :: .int .u8 0 :: .int .u8 0 :: .int .u8 0 :: .int .u8 0 :: .int .u8 0 :: .int .u8 0 :: .int .u8 0 :: .int .u8 0 :: .int .u8 0 :: .int .u8 0 :: .int .u8 0 :: .int .u8 0 :: .int .u8 0 :: .int .u8 0 :: .int .u8 0 :: .int .u8 0 :: .int .u8 0 :: .int .u8 0 :: .int .u8 0 :: .int .u8 0 :: .int .u8 0 :: .int .u8 0 :: .int .u8 0 :: .int .u8 0 :: .int .u8 0 :: .int .u8 0 :: .int .u8 0 :: .int .u8 0 :: [])) 26)).drew = WO3 at *
      refine hK' _ _ (HO3.out.1) ?_
      clear hK' K'
      go_simp
      refine wpAnyH_one (i := 2) (by kernel_rfl) rfl (by kernel_rfl) (fun K' hK' => ?_)
      go_simp
      have HO4 := Lib.hid (show Below W0.heap.size W0 _ ∧ W0.heap.size ≤ W0.heap.size ∧ _ ∧ W0.heap.size ≠ WO3.heap.size ∧ W0.heap.size ≤ WO3.heap.size ∧ _ from ⟨HO3.out.1.alloc HO3.out.1.size (.cells (List.toArray (.int .u8 0 :: .int .u8 0 :: .int .u8 0 :: .int .u8 0 :: .int .u8 0 :: .int .u8 0 :: .int .u8 0 :: .int .u8 0 :: .int .u8 0 :: .int .u8 0 :: .int .u8 0 :: .int .u8 0 :: .int .u8 0 :: .int .u8 0 :: .int .u8 0 :: .int .u8 0 :: .int .u8 0 :: .int .u8 0 :: .int .u8 0 :: .int .u8 0 :: .int .u8 0 :: .int .u8 0 :: .int .u8 0 :: .int .u8 0 :: .int .u8 0 :: .int .u8 0 :: .int .u8 0 :: .int .u8 0 :: .int .u8 0 :: .int .u8 0 :: .int .u8 0 :: .int .u8 0 :: [])) 26), HO3.out.2.1, blk_alloc HO3.out.2.2 (.cells (List.toArray (.int .u8 0 :: .int .u8 0 :: .int .u8 0 :: .int .u8 0 :: .int .u8 0 :: .int .u8 0 :: .int .u8 0 :: .int .u8 0 :: .int .u8 0 :: .int .u8 0 :: .int .u8 0 :: .int .u8 0 :: .int .u8 0 :: .int .u8 0 :: .int .u8 0 :: .int .u8 0 :: .int .u8 0 :: .int .u8 0 :: .int .u8 0 :: .int .u8 0 :: .int .u8 0 :: .int .u8 0 :: .int .u8 0 :: .int .u8 0 :: .int .u8 0 :: .int .u8 0 :: .int .u8 0 :: .int .u8 0 :: .int .u8 0 :: .int .u8 0 :: .int .u8 0 :: .int .u8 0 :: [])) 26), other_block HO3.out.2.2 (Nat.le_refl _), HO3.out.1.size, blk_new WO3 (.cells (List.toArray (.int .u8 0 :: .int .u8 0 :: .int .u8 0 :: .int .u8 0 :: .int .u8 0 :: .int .u8 0 :: .int .u8 0 :: .int .u8 0 :: .int .u8 0 :: .int .u8 0 :: .int .u8 0 :: .int .u8 0 :: .int .u8 0 :: .int .u8 0 :: .int .u8 0 :: .int .u8 0 :: .int .u8 0 :: .int .u8 0 :: .int .u8 0 :: .int .u8 0 :: .int .u8 0 :: .int .u8 0 :: .int .u8 0 :: .int .u8 0 :: .int .u8 0 :: .int .u8 0 :: .int .u8 0 :: .int .u8 0 :: .int .u8 0 :: .int .u8 0 :: .int .u8 0 :: .int .u8 0 :: [])) 26)⟩)
      generalize WO3.alloc (.cells (List.toArray (.int .u8 0 :: .int .u8 0 :: .int .u8 0 :: .int .u8 0 :: .int .u8 0 :: .int .u8 0 :: .int .u8 0 :: .int .u8 0 :: .int .u8 0 :: .int .u8 0 :: .int .u8 0 :: .int .u8 0 :: .int .u8 0 :: .int .u8 0 :: .int .u8 0 :: .int .u8 0 :: .int .u8 0 :: .int .u8 0 :: .int .u8 0 :: .int .u8 0 :: .int .u8 0 :: .int .u8 0 :: .int .u8 0 :: .int .u8 0 :: .int .u8 0 :: .int .u8 0 :: .int .u8 0 :: .int .u8 0 :: .int .u8 0 :: .int .u8 0 :: .int .u8 0 :: .int .u8 0 :: [])) 26) = WO4 at *
      refine hK' _ _ (HO4.out.1) ?_
      clear hK' K'
      go_simp
      refine wpAnyH_one (i := 4) (by kernel_rfl) rfl (by kernel_rfl) (fun K' hK' => ?_)
      refine wp_store_row 26 (.tmp 5) (.tmp 12) (by kernel_rfl) WO3.heap.size (bV F) (by kernel_rfl) (by kernel_rfl) 26 _ HO4.out.2.2.2.2.2 (by rw [bV_size, hF]; kernel_rfl) (by rw [bV_size, hF]; rfl) (bV_one _) ?_
      have hf5 := setRow_heap _ WO3.heap.size _ (bV F) 26 (0, 0) HO4.out.2.2.2.2.2
      have hf6 := (setRow_other WO4 WO3.heap.size W0.heap.size (bV F) HO4.out.2.2.2.1).trans HO4.out.2.2.1
      have hbw := below_setRow HO4.out.1 HO4.out.2.2.2.2.1 (bV F)
      generalize WO4.setRow WO3.heap.size (bV F) = WZ at *
      refine hK' _ _ (hbw) ?_
      clear hK' K'
      go_simp
      refine wpAnyH_one (i := 5) (by kernel_rfl) rfl (by kernel_rfl) (fun K' hK' => ?_)
      refine wp_store_row 26 (.tmp 6) (.tmp 13) (by kernel_rfl) W0.heap.size (bV F) (by kernel_rfl) (by kernel_rfl) 26 _ hf6 (by rw [bV_size, hF]; kernel_rfl) (by rw [bV_size, hF]; rfl) (bV_one _) ?_
      have hg6 := setRow_heap _ W0.heap.size _ (bV F) 26 (0, 0) hf6
      have hg5 := (setRow_other WZ W0.heap.size WO3.heap.size (bV F) (Ne.symm HO4.out.2.2.2.1)).trans hf5
      have hbw2 := below_setRow hbw HO4.out.2.1 (bV F)
      have HM := Lib.hid (show TwoD F F W0 (.pointer (some ⟨WO3.heap.size, 0, none⟩)) (.pointer (some ⟨W0.heap.size, 0, none⟩)) (WZ.setRow W0.heap.size (bV F)) from ⟨_, _, rfl, rfl, hg5, hg6, hbw2, HO4.out.2.2.2.2.1, HO4.out.2.1, (Ne.symm HO4.out.2.2.2.1)⟩)
      generalize WZ.setRow W0.heap.size (bV F) = WY at *
      clear hg6 hg5 hf5 hf6 hbw
      refine hK' _ _ (hbw2) ?_
      clear hK' K'
      go_simp
      refine wpAnyH_done (by kernel_rfl) ?_ _
      refine NoPanic.normal ?_
      go_simp
      go_wp2_with fail
      go_meet
      case rel => exact HM.out
  case rest =>
    obtain ⟨b5, b6, rfl, rfl, h5, h6, hbx, hl5, hl6, hne⟩ := hcut
    have hbw := HW.out.2.1.trans (hbx.mono HW.out.2.1.size)
    have hz5 : w.heap.size ≤ b5 := Nat.le_trans HW.out.2.1.size hl5
    have hz6 : w.heap.size ≤ b6 := Nat.le_trans HW.out.2.1.size hl6
    have HC := Lib.hid (show _ ∧ _ ∧ Below w.heap.size w wc from ⟨h5, h6, hbw⟩)
    have hs5 := blk_lt h5
    have hs6 := blk_lt h6
    clear h5 h6 hbx hbw hl5 hl6 HW
    go_wp2_with fail
    refine (of_any a b off n cap l _ (HR0.out.1.below HC.out.2.2 (Nat.le_refl _)) hn).mono ?_
    rintro e W1 ⟨v, rfl, hO, hb1⟩
    obtain ⟨la, lb, lcap, rfl, hDg, hlnc, hlc, hlm, hla⟩ := hO.s
    obtain ⟨m, hm⟩ : ∃ m, m = min n 24 := ⟨_, rfl⟩
    rw [← hm] at hDg hlc hO ⊢
    obtain ⟨L, hL⟩ : ∃ L, L = ofL l m := ⟨_, rfl⟩
    rw [← hL] at hDg hlc hO ⊢
    have hLl : L.length = m := by rw [hL, ofL_len]
    rw [hLl] at hDg hlc hO ⊢
    have hlb : 0 < m → wc.heap.size ≤ lb := fun h => by
      have := hDg.adr h
      rw [this] at hO
      exact hO.ge
    have hm24 : m ≤ 24 := by omega
    have HE := Lib.hid (show W1.heap[b5]? = _ ∧ W1.heap[b6]? = _ ∧ Below w.heap.size w W1 ∧ DigR W1 la lb 0 m L from ⟨blk_below HC.out.1 hb1 hs5, blk_below HC.out.2.1 hb1 hs6, HC.out.2.2.trans (hb1.mono HC.out.2.2.size), hDg⟩)
    have HL := Lib.hid (show _ ∧ _ ∧ _ from ⟨hlb, hs5, hs6⟩)
    clear hDg hb1 hO hL hm hLl hlb hla HC
    go_wp2_with fail
    go_loopw [17] (fun v wr => ∃ j : Nat, j ≤ m ∧ v = .int .i64 j ∧ Hid (∃ X : List Int, X.length = 32 ∧ wr.heap[b5]? = some (.cells (bV X) 26 (0, 0)) ∧ wr.heap[b6]? = some (.cells (bV X) 26 (0, 0)) ∧ Below w.heap.size w wr ∧ DigR wr la lb 0 m L)) (fun v _ => m - (intOf v).toNat)
    case atStart => exact ⟨0, Nat.zero_le _, rfl, Lib.hid ⟨F, hF, HE.out⟩⟩
    case round =>
      obtain ⟨j, hj, rfl, HI⟩ := hrel
      by_cases hjm : j < m
      · have j1 : (j : Int) < (m : Int) := by omega
        have j2 : ¬ (j : Int) < 0 := by omega
        have u1 : IntKind.i64.wrap ((j : Int) + 1) = ((j + 1 : Nat) : Int) := (wrap_id (by omega)).trans (by omega)
        obtain ⟨X, hX, hc5, hc6, hbr, hDr⟩ := HI.out
        obtain rfl := hDr.adr (by omega)
        obtain ⟨D, hDe⟩ : ∃ D, D = L.getD j [] := ⟨_, rfl⟩
        have hD : D.length = 32 := by rw [hDe]; exact hDr.dig j hjm
        have hel : wr.rangeAt lb (j * 32) (D.map (Value.int .u8)) := by
          have := (hDr.elem hjm).range
          rw [hDe]
          rwa [Nat.zero_add] at this
        have hlb := HL.out.1 (by omega)
        have HX := Lib.hid (show _ ∧ _ ∧ _ ∧ _ ∧ _ ∧ _ from ⟨hc5, hc6, hbr, hDr, hDe, hel⟩)
        clear hc5 hc6 hbr hDr hDe hel HI
        go_wp2_with (with_reducible refine held (o := ⟨some 20, _, _, _, _, _⟩) ?_)
        unfold Held
        refine wpList_load_mid rfl 26 (.tmp 19) rfl lb (j * 32) (by kernel_rfl) _ _ HX.out.2.2.2.2.2 Tryd.underlying26 rfl (by rw [List.length_map, hD]; kernel_rfl) ?_
        rw [show (D.map (Value.int .u8)).toArray = bV D from rfl]
        go_wp2_with (with_reducible refine held (o := ⟨none, _, _, _, _, _⟩) ?_)
        unfold Held
        refine wpList_store_row rfl 26 (.tmp 8) (.tmp 20) (by kernel_rfl) wr.heap.size (bV D) (by kernel_rfl) (by kernel_rfl) 26 _ (blk_new wr _) (by rw [bV_size, hD]; kernel_rfl) (by rw [bV_size, hD]; rfl) (bV_one _) ?_
        rw [World.setRow_alloc_new]
        have hw8 := blk_new wr (.cells (bV D) 26)
        have hbb := (Below.refl wr.heap.size wr).alloc (Nat.le_refl _) (.cells (bV D) 26)
        generalize wr.alloc (.cells (bV D) 26) = WD at *
        go_simp
        go_upto_region 7 with fail
        have hx5 := blk_below HX.out.1 hbb (blk_lt HX.out.1)
        refine wp_region_lit ?_
        refine wpList_load_row rfl 26 (.tmp 5) rfl b5 (by kernel_rfl) 26 (bV X) (0, 0) _ hx5 Tryd.underlying26 rfl (by rw [bV_size, hX]; kernel_rfl) ?_
        go_wp2_with (with_reducible refine held (o := ⟨none, _, _, _, _, _⟩) ?_)
        unfold Held
        refine wpList_store_row rfl 26 (.tmp 9) (.tmp 21) (by kernel_rfl) WD.heap.size (bV X) (by kernel_rfl) (by kernel_rfl) 26 _ (blk_new WD _) (by rw [bV_size, hX]; kernel_rfl) (by rw [bV_size, hX]; rfl) (bV_one _) ?_
        rw [World.setRow_alloc_new]
        have hw9 := blk_new WD (.cells (bV X) 26)
        have hbc := hbb.alloc hbb.size (.cells (bV X) 26)
        have hv8 := blk_alloc hw8 (.cells (bV X) 26)
        have h8lt := blk_lt hw8
        have hwd := hbb.size
        generalize WD.alloc (.cells (bV X) 26) = WB at *
        go_simp
        obtain ⟨b8, hb8⟩ : ∃ b8, b8 = wr.heap.size := ⟨_, rfl⟩
        obtain ⟨b9, hb9⟩ : ∃ b9, b9 = WD.heap.size := ⟨_, rfl⟩
        have hbw := HX.out.2.2.1.trans (hbc.mono HX.out.2.2.1.size)
        have hr5 := blk_lt HX.out.1
        have hr6 := blk_lt HX.out.2.1
        have HR := Lib.hid (show WB.heap[b5]? = _ ∧ WB.heap[b6]? = _ ∧ Keys WB ∧ Below w.heap.size w WB ∧ DigR WB _ lb 0 m L from ⟨blk_below HX.out.1 hbc hr5, blk_below HX.out.2.1 hbc hr6, HR0.out.2.below hbw, hbw, HX.out.2.2.2.1.below hbc (Nat.le_refl _)⟩)
        have HN := Lib.hid (show b8 ≠ b5 ∧ b8 ≠ b6 ∧ b9 ≠ b5 ∧ b9 ≠ b6 from ⟨by omega, by omega, by omega, by omega⟩)
        rw [← hb8] at hv8 ⊢
        rw [← hb9] at hw9 ⊢
        have HB := Lib.hid (show WB.heap[b8]? = _ ∧ WB.heap[b9]? = _ from ⟨hv8, hw9⟩)
        have HQ := Lib.hid (show w.heap.size ≤ b5 ∧ w.heap.size ≤ b6 ∧ lb ≠ b5 ∧ lb ≠ b6 from ⟨hz5, hz6, by have := HL.out.2.1; omega, by have := HL.out.2.2; omega⟩)
        obtain ⟨sN, hsN⟩ : ∃ s, s = tagS ⟨#[99, 104, 97, 105, 110]⟩ (X ++ D) := ⟨_, rfl⟩
        have HS := Lib.hid hsN
        clear hsN hx5 hw8 hbb hw9 hbc hv8 h8lt hwd hbw hr5 hr6 HX hb8 hb9 hlb
        go_upto_region 8 with fail
        go_cut [5] from 22 (fun s5 wx => s5 = .pointer (some ⟨b5, 0, none⟩) ∧ wx.heap[b5]? = some (.cells (bV (dgL sN)) 26 (0, 0)) ∧ wx.heap[b6]? = some (.cells (bV (dgL sN)) 26 (0, 0)) ∧ wx.heap[b8]? = some (.cells (bV D) 26 (0, 0)) ∧ wx.heap[b9]? = some (.cells (bV X) 26 (0, 0)) ∧ Below w.heap.size w wx ∧ DigR wx (some ⟨lb, 0, none⟩) lb 0 m L)
        case first =>
          refine wp_region_from 1 1 (fun w' => w'.heap[b8]? = some (.cells (bV D) 26 (0, 0))) (by kernel_rfl) (by kernel_rfl) (by decide) (by kernel_rfl) (blk_drew HB.out.1) ?_
          simp only [List.drop_succ_cons, List.drop_zero, List.take_succ_cons, List.take_zero]
          refine wpHeld_load (.tmp 8) (by kernel_rfl) (by kernel_rfl) (b8) (0) (by kernel_rfl) (D) hD (fun w' hS => (RowB.of_bV hD hS).range) ?_
          refine wpHeld_nil ?_
          refine wpAnyH_from (fuel := 6) 4 1 (fun _ _ _ _ _ h => h) (by kernel_rfl) (by decide) (by kernel_rfl) (blk_drew HB.out.1) ?_
          simp only [List.drop_succ_cons, List.drop_zero, List.take_succ_cons, List.take_zero]
          refine wpHeld_load (.tmp 8) (by kernel_rfl) (by kernel_rfl) (b8) (0) (by kernel_rfl) (D) hD (fun w' hS => (RowB.of_bV hD hS).range) ?_
          refine wpHeld_nil ?_
          go_simp
          have H0 := Lib.hid (show Below WB.heap.size WB WB.drew from (Below.refl _ _).drew)
          refine wpAnyH_two (i := 0) (j := 3) (by kernel_rfl) rfl rfl (by kernel_rfl) (by kernel_rfl) (fun K' hK' => ?_) (fun K' hK' => ?_)
          · refine wp_load_row 26 (.tmp 5) rfl b5 (by kernel_rfl) 26 (bV X) (0, 0) _ (blk_below HR.out.1 (H0.out) (blk_lt HR.out.1)) Tryd.underlying26 rfl (by rw [bV_size, hX]; kernel_rfl) ?_
            refine hK' _ _ (blk_below HB.out.1 (H0.out) (blk_lt HB.out.1)) ?_
            clear hK' K'
            go_simp
            refine wpAnyH_two (i := 2) (j := 3) (by kernel_rfl) rfl rfl (by kernel_rfl) (by kernel_rfl) (fun K' hK' => ?_) (fun K' hK' => ?_)
            · go_simp
              refine (chain_any X D hX hD WB.drew (HR.out.2.2.1.below (H0.out))).mono ?_
              rintro e WO2 ⟨rfl, hb2⟩
              rw [bV_dg, ← HS.out]
              have HO2 := Lib.hid (show Below WB.heap.size WB WO2 from below_after H0.out hb2 H0.out.size)
              clear hb2
              refine hK' _ _ (blk_below HB.out.1 (HO2.out) (blk_lt HB.out.1)) ?_
              clear hK' K'
              go_simp
              refine wpAnyH_one (i := 3) (by kernel_rfl) rfl (by kernel_rfl) (fun K' hK' => ?_)
              refine wp_load_row 26 (.tmp 6) rfl b6 (by kernel_rfl) 26 (bV X) (0, 0) _ (blk_below HR.out.2.1 (HO2.out) (blk_lt HR.out.2.1)) Tryd.underlying26 rfl (by rw [bV_size, hX]; kernel_rfl) ?_
              refine hK' _ _ (blk_below HB.out.1 (HO2.out) (blk_lt HB.out.1)) ?_
              clear hK' K'
              go_simp
              refine wpAnyH_one (i := 5) (by kernel_rfl) rfl (by kernel_rfl) (fun K' hK' => ?_)
              go_simp
              refine (rchain_any X D hX hD WO2).mono ?_
              rintro e WO4 ⟨rfl, hb4⟩
              rw [bV_dg, ← HS.out]
              have HO4 := Lib.hid (show Below WB.heap.size WB WO4 from below_after HO2.out hb4 HO2.out.size)
              clear hb4
              refine hK' _ _ (blk_below HB.out.1 (HO4.out) (blk_lt HB.out.1)) ?_
              clear hK' K'
              go_simp
              refine wpAnyH_one (i := 6) (by kernel_rfl) rfl (by kernel_rfl) (fun K' hK' => ?_)
              refine wp_store_row 26 (.tmp 5) (.tmp 24) (by kernel_rfl) b5 (bV (dgL sN)) (by kernel_rfl) (by kernel_rfl) 26 _ (blk_below HR.out.1 HO4.out (blk_lt HR.out.1)) (by rw [bV_size, dgL_len]; kernel_rfl) (by rw [bV_size, bV_size, dgL_len, hX]) (bV_one _) ?_
              have q1 := setRow_heap WO4 b5 _ (bV (dgL sN)) 26 (0, 0) (blk_below HR.out.1 HO4.out (blk_lt HR.out.1))
              have q2 := (setRow_other WO4 b5 b6 (bV (dgL sN)) (Ne.symm hne)).trans (blk_below HR.out.2.1 HO4.out (blk_lt HR.out.2.1))
              have q3 := (setRow_other WO4 b5 b8 (bV (dgL sN)) HN.out.1).trans (blk_below HB.out.1 HO4.out (blk_lt HB.out.1))
              have q4 := (setRow_other WO4 b5 b9 (bV (dgL sN)) HN.out.2.2.1).trans (blk_below HB.out.2 HO4.out (blk_lt HB.out.2))
              have q5 := below_setRow (HR.out.2.2.2.1.trans (HO4.out.mono HR.out.2.2.2.1.size)) HQ.out.1 (bV (dgL sN))
              have q6 := (HR.out.2.2.2.2.below HO4.out (Nat.le_refl _)).setRow b5 (bV (dgL sN)) HQ.out.2.2.1
              generalize WO4.setRow b5 (bV (dgL sN)) = WZ at *
              refine hK' _ _ (q3) ?_
              clear hK' K'
              go_simp
              refine wpAnyH_one (i := 7) (by kernel_rfl) rfl (by kernel_rfl) (fun K' hK' => ?_)
              refine wp_store_row 26 (.tmp 6) (.tmp 27) (by kernel_rfl) b6 (bV (dgL sN)) (by kernel_rfl) (by kernel_rfl) 26 _ q2 (by rw [bV_size, dgL_len]; kernel_rfl) (by rw [bV_size, bV_size, dgL_len, hX]) (bV_one _) ?_
              have r1 := (setRow_other WZ b6 b5 (bV (dgL sN)) hne).trans q1
              have r2 := setRow_heap WZ b6 _ (bV (dgL sN)) 26 (0, 0) q2
              have r3 := (setRow_other WZ b6 b8 (bV (dgL sN)) HN.out.2.1).trans q3
              have r4 := (setRow_other WZ b6 b9 (bV (dgL sN)) HN.out.2.2.2).trans q4
              have r5 := below_setRow q5 HQ.out.2.1 (bV (dgL sN))
              have r6 := q6.setRow b6 (bV (dgL sN)) HQ.out.2.2.2
              generalize WZ.setRow b6 (bV (dgL sN)) = WY at *
              clear q1 q2 q3 q4 q5 q6
              have HM := Lib.hid (show _ ∧ _ ∧ _ ∧ _ ∧ _ ∧ _ from ⟨r1, r2, r3, r4, r5, r6⟩)
              clear r1 r2 r4 r5 r6
              refine hK' _ _ (r3) ?_
              clear hK' K'
              go_simp
              refine wpAnyH_done (by kernel_rfl) ?_ _
              refine NoPanic.normal ?_
              go_simp
              go_wp2_with fail
              go_meet
              case rel => exact ⟨rfl, HM.out⟩
            · refine wp_load_row 26 (.tmp 6) rfl b6 (by kernel_rfl) 26 (bV X) (0, 0) _ (blk_below HR.out.2.1 (H0.out) (blk_lt HR.out.2.1)) Tryd.underlying26 rfl (by rw [bV_size, hX]; kernel_rfl) ?_
              refine hK' _ _ (blk_below HB.out.1 (H0.out) (blk_lt HB.out.1)) ?_
              clear hK' K'
              go_simp
              refine wpAnyH_one (i := 2) (by kernel_rfl) rfl (by kernel_rfl) (fun K' hK' => ?_)
              go_simp
              refine (chain_any X D hX hD WB.drew (HR.out.2.2.1.below (H0.out))).mono ?_
              rintro e WO6 ⟨rfl, hb6⟩
              rw [bV_dg, ← HS.out]
              have HO6 := Lib.hid (show Below WB.heap.size WB WO6 from below_after H0.out hb6 H0.out.size)
              clear hb6
              refine hK' _ _ (blk_below HB.out.1 (HO6.out) (blk_lt HB.out.1)) ?_
              clear hK' K'
              go_simp
              refine wpAnyH_one (i := 5) (by kernel_rfl) rfl (by kernel_rfl) (fun K' hK' => ?_)
              go_simp
              refine (rchain_any X D hX hD WO6).mono ?_
              rintro e WO7 ⟨rfl, hb7⟩
              rw [bV_dg, ← HS.out]
              have HO7 := Lib.hid (show Below WB.heap.size WB WO7 from below_after HO6.out hb7 HO6.out.size)
              clear hb7
              refine hK' _ _ (blk_below HB.out.1 (HO7.out) (blk_lt HB.out.1)) ?_
              clear hK' K'
              go_simp
              refine wpAnyH_one (i := 6) (by kernel_rfl) rfl (by kernel_rfl) (fun K' hK' => ?_)
              refine wp_store_row 26 (.tmp 5) (.tmp 24) (by kernel_rfl) b5 (bV (dgL sN)) (by kernel_rfl) (by kernel_rfl) 26 _ (blk_below HR.out.1 HO7.out (blk_lt HR.out.1)) (by rw [bV_size, dgL_len]; kernel_rfl) (by rw [bV_size, bV_size, dgL_len, hX]) (bV_one _) ?_
              have q1 := setRow_heap WO7 b5 _ (bV (dgL sN)) 26 (0, 0) (blk_below HR.out.1 HO7.out (blk_lt HR.out.1))
              have q2 := (setRow_other WO7 b5 b6 (bV (dgL sN)) (Ne.symm hne)).trans (blk_below HR.out.2.1 HO7.out (blk_lt HR.out.2.1))
              have q3 := (setRow_other WO7 b5 b8 (bV (dgL sN)) HN.out.1).trans (blk_below HB.out.1 HO7.out (blk_lt HB.out.1))
              have q4 := (setRow_other WO7 b5 b9 (bV (dgL sN)) HN.out.2.2.1).trans (blk_below HB.out.2 HO7.out (blk_lt HB.out.2))
              have q5 := below_setRow (HR.out.2.2.2.1.trans (HO7.out.mono HR.out.2.2.2.1.size)) HQ.out.1 (bV (dgL sN))
              have q6 := (HR.out.2.2.2.2.below HO7.out (Nat.le_refl _)).setRow b5 (bV (dgL sN)) HQ.out.2.2.1
              generalize WO7.setRow b5 (bV (dgL sN)) = WZ at *
              refine hK' _ _ (q3) ?_
              clear hK' K'
              go_simp
              refine wpAnyH_one (i := 7) (by kernel_rfl) rfl (by kernel_rfl) (fun K' hK' => ?_)
              refine wp_store_row 26 (.tmp 6) (.tmp 27) (by kernel_rfl) b6 (bV (dgL sN)) (by kernel_rfl) (by kernel_rfl) 26 _ q2 (by rw [bV_size, dgL_len]; kernel_rfl) (by rw [bV_size, bV_size, dgL_len, hX]) (bV_one _) ?_
              have r1 := (setRow_other WZ b6 b5 (bV (dgL sN)) hne).trans q1
              have r2 := setRow_heap WZ b6 _ (bV (dgL sN)) 26 (0, 0) q2
              have r3 := (setRow_other WZ b6 b8 (bV (dgL sN)) HN.out.2.1).trans q3
              have r4 := (setRow_other WZ b6 b9 (bV (dgL sN)) HN.out.2.2.2).trans q4
              have r5 := below_setRow q5 HQ.out.2.1 (bV (dgL sN))
              have r6 := q6.setRow b6 (bV (dgL sN)) HQ.out.2.2.2
              generalize WZ.setRow b6 (bV (dgL sN)) = WY at *
              clear q1 q2 q3 q4 q5 q6
              have HM := Lib.hid (show _ ∧ _ ∧ _ ∧ _ ∧ _ ∧ _ from ⟨r1, r2, r3, r4, r5, r6⟩)
              clear r1 r2 r4 r5 r6
              refine hK' _ _ (r3) ?_
              clear hK' K'
              go_simp
              refine wpAnyH_done (by kernel_rfl) ?_ _
              refine NoPanic.normal ?_
              go_simp
              go_wp2_with fail
              go_meet
              case rel => exact ⟨rfl, HM.out⟩
          · refine wp_load_row 26 (.tmp 6) rfl b6 (by kernel_rfl) 26 (bV X) (0, 0) _ (blk_below HR.out.2.1 (H0.out) (blk_lt HR.out.2.1)) Tryd.underlying26 rfl (by rw [bV_size, hX]; kernel_rfl) ?_
            refine hK' _ _ (blk_below HB.out.1 (H0.out) (blk_lt HB.out.1)) ?_
            clear hK' K'
            go_simp
            refine wpAnyH_one (i := 0) (by kernel_rfl) rfl (by kernel_rfl) (fun K' hK' => ?_)
            refine wp_load_row 26 (.tmp 5) rfl b5 (by kernel_rfl) 26 (bV X) (0, 0) _ (blk_below HR.out.1 (H0.out) (blk_lt HR.out.1)) Tryd.underlying26 rfl (by rw [bV_size, hX]; kernel_rfl) ?_
            refine hK' _ _ (blk_below HB.out.1 (H0.out) (blk_lt HB.out.1)) ?_
            clear hK' K'
            go_simp
            refine wpAnyH_one (i := 2) (by kernel_rfl) rfl (by kernel_rfl) (fun K' hK' => ?_)
            go_simp
            refine (chain_any X D hX hD WB.drew (HR.out.2.2.1.below (H0.out))).mono ?_
            rintro e WO10 ⟨rfl, hb10⟩
            rw [bV_dg, ← HS.out]
            have HO10 := Lib.hid (show Below WB.heap.size WB WO10 from below_after H0.out hb10 H0.out.size)
            clear hb10
            refine hK' _ _ (blk_below HB.out.1 (HO10.out) (blk_lt HB.out.1)) ?_
            clear hK' K'
            go_simp
            refine wpAnyH_one (i := 5) (by kernel_rfl) rfl (by kernel_rfl) (fun K' hK' => ?_)
            go_simp
            refine (rchain_any X D hX hD WO10).mono ?_
            rintro e WO11 ⟨rfl, hb11⟩
            rw [bV_dg, ← HS.out]
            have HO11 := Lib.hid (show Below WB.heap.size WB WO11 from below_after HO10.out hb11 HO10.out.size)
            clear hb11
            refine hK' _ _ (blk_below HB.out.1 (HO11.out) (blk_lt HB.out.1)) ?_
            clear hK' K'
            go_simp
            refine wpAnyH_one (i := 6) (by kernel_rfl) rfl (by kernel_rfl) (fun K' hK' => ?_)
            refine wp_store_row 26 (.tmp 5) (.tmp 24) (by kernel_rfl) b5 (bV (dgL sN)) (by kernel_rfl) (by kernel_rfl) 26 _ (blk_below HR.out.1 HO11.out (blk_lt HR.out.1)) (by rw [bV_size, dgL_len]; kernel_rfl) (by rw [bV_size, bV_size, dgL_len, hX]) (bV_one _) ?_
            have q1 := setRow_heap WO11 b5 _ (bV (dgL sN)) 26 (0, 0) (blk_below HR.out.1 HO11.out (blk_lt HR.out.1))
            have q2 := (setRow_other WO11 b5 b6 (bV (dgL sN)) (Ne.symm hne)).trans (blk_below HR.out.2.1 HO11.out (blk_lt HR.out.2.1))
            have q3 := (setRow_other WO11 b5 b8 (bV (dgL sN)) HN.out.1).trans (blk_below HB.out.1 HO11.out (blk_lt HB.out.1))
            have q4 := (setRow_other WO11 b5 b9 (bV (dgL sN)) HN.out.2.2.1).trans (blk_below HB.out.2 HO11.out (blk_lt HB.out.2))
            have q5 := below_setRow (HR.out.2.2.2.1.trans (HO11.out.mono HR.out.2.2.2.1.size)) HQ.out.1 (bV (dgL sN))
            have q6 := (HR.out.2.2.2.2.below HO11.out (Nat.le_refl _)).setRow b5 (bV (dgL sN)) HQ.out.2.2.1
            generalize WO11.setRow b5 (bV (dgL sN)) = WZ at *
            refine hK' _ _ (q3) ?_
            clear hK' K'
            go_simp
            refine wpAnyH_one (i := 7) (by kernel_rfl) rfl (by kernel_rfl) (fun K' hK' => ?_)
            refine wp_store_row 26 (.tmp 6) (.tmp 27) (by kernel_rfl) b6 (bV (dgL sN)) (by kernel_rfl) (by kernel_rfl) 26 _ q2 (by rw [bV_size, dgL_len]; kernel_rfl) (by rw [bV_size, bV_size, dgL_len, hX]) (bV_one _) ?_
            have r1 := (setRow_other WZ b6 b5 (bV (dgL sN)) hne).trans q1
            have r2 := setRow_heap WZ b6 _ (bV (dgL sN)) 26 (0, 0) q2
            have r3 := (setRow_other WZ b6 b8 (bV (dgL sN)) HN.out.2.1).trans q3
            have r4 := (setRow_other WZ b6 b9 (bV (dgL sN)) HN.out.2.2.2).trans q4
            have r5 := below_setRow q5 HQ.out.2.1 (bV (dgL sN))
            have r6 := q6.setRow b6 (bV (dgL sN)) HQ.out.2.2.2
            generalize WZ.setRow b6 (bV (dgL sN)) = WY at *
            clear q1 q2 q3 q4 q5 q6
            have HM := Lib.hid (show _ ∧ _ ∧ _ ∧ _ ∧ _ ∧ _ from ⟨r1, r2, r3, r4, r5, r6⟩)
            clear r1 r2 r4 r5 r6
            refine hK' _ _ (r3) ?_
            clear hK' K'
            go_simp
            refine wpAnyH_done (by kernel_rfl) ?_ _
            refine NoPanic.normal ?_
            go_simp
            go_wp2_with fail
            go_meet
            case rel => exact ⟨rfl, HM.out⟩
        case rest =>
          obtain ⟨rfl, h5, h6, h8, h9, hbw, hDr⟩ := hcut
          have HC := Lib.hid (show _ ∧ _ ∧ _ ∧ _ ∧ _ ∧ _ from ⟨h5, h6, h8, h9, hbw, hDr⟩)
          clear h5 h6 h8 h9 hbw hDr HR HB
          go_upto_region 9 with fail
          refine wp_region_from 0 5 (fun w' => Below wc.heap.size wc w') (by kernel_rfl) (by kernel_rfl) (by decide) (by kernel_rfl) ((Below.refl _ _).drew) ?_
          simp only [List.drop_zero, List.take_succ_cons, List.take_zero]
          refine wpHeld_load (.tmp 5) (by kernel_rfl) (by kernel_rfl) (b5) (0) (by kernel_rfl) ((dgL sN)) (dgL_len _) (fun w' hS => (RowB.of_bV (dgL_len _) (blk_below HC.out.1 hS (blk_lt HC.out.1))).range) ?_
          refine wpHeld_load (.tmp 6) (by kernel_rfl) (by kernel_rfl) (b6) (0) (by kernel_rfl) ((dgL sN)) (dgL_len _) (fun w' hS => (RowB.of_bV (dgL_len _) (blk_below HC.out.2.1 hS (blk_lt HC.out.2.1))).range) ?_
          refine wpHeld_cons (.bool false) (by kernel_rfl) ?_ ?_
          · rintro w' -
            try go_simp
            rw [run_eq_D (dgL sN) (dgL sN) (dgL_len _) (dgL_len _), decide_eq_true rfl]
            go_simp
          refine wpHeld_cons (.bool false) (by kernel_rfl) ?_ ?_
          · rintro w' -
            try go_simp
          refine wpHeld_load (.tmp 5) (by kernel_rfl) (by kernel_rfl) (b5) (0) (by kernel_rfl) ((dgL sN)) (dgL_len _) (fun w' hS => (RowB.of_bV (dgL_len _) (blk_below HC.out.1 hS (blk_lt HC.out.1))).range) ?_
          refine wpHeld_nil ?_
          refine wpAnyH_from (fuel := 7) 6 1 (fun _ _ _ _ _ h => h) (by kernel_rfl) (by decide) (by kernel_rfl) ((Below.refl _ _).drew) ?_
          simp only [List.drop_succ_cons, List.drop_zero, List.take_succ_cons, List.take_zero]
          refine wpHeld_cons (.slice (some ⟨b9, 0, none⟩) 32 32) (by kernel_rfl) ?_ ?_
          · rintro w' -
            try go_simp
          refine wpHeld_nil ?_
          refine wpAnyH_from (fuel := 6) 8 1 (fun _ _ _ _ _ h => h) (by kernel_rfl) (by decide) (by kernel_rfl) ((Below.refl _ _).drew) ?_
          simp only [List.drop_succ_cons, List.drop_zero, List.take_succ_cons, List.take_zero]
          refine wpHeld_cons (.slice (some ⟨b8, 0, none⟩) 32 32) (by kernel_rfl) ?_ ?_
          · rintro w' -
            try go_simp
          refine wpHeld_nil ?_
          go_simp
          refine wpAnyH_one (i := 5) (by kernel_rfl) rfl (by kernel_rfl) (fun K' hK' => ?_)
          go_simp
          have hby := (Byts.empty wc).drew
          have hbe := ((Below.refl wc.heap.size wc).alloc (Nat.le_refl _) (.cells #[] 5)).drew
          generalize (wc.alloc (.cells #[] 5)).drew = W3 at *
          have HX := Lib.hid (show Below wc.heap.size wc W3 ∧ Byts W3 wc.heap.size _ [] from ⟨hbe, hby⟩)
          clear hby hbe
          refine hK' _ _ (HX.out.1) ?_
          clear hK' K'
          go_simp
          refine wpAnyH_one (i := 7) (by kernel_rfl) rfl (by kernel_rfl) (fun K' hK' => ?_)
          refine wp_append_brow (.tmp 33) (.tmp 34) rfl wc.heap.size _ [] (by kernel_rfl) HX.out.2 _ (b9) 0 32 32 X (by kernel_rfl) (RowB.of_bV hX (blk_below HC.out.2.2.2.1 HX.out.1 (Array.getElem?_eq_some_iff.1 HC.out.2.2.2.1).1)) (fun h => by cases h) (by decide) HX.out.1.size ?_
          intro v5 W5 hO5 hb5 _
          have HX5 := Lib.hid (show Below wc.heap.size wc W5 ∧ Byts W5 wc.heap.size v5 X from ⟨below_trans' HX.out.1 hb5, hO5⟩)
          clear hO5 hb5
          refine hK' _ _ (HX5.out.1) ?_
          clear hK' K'
          go_simp
          refine wpAnyH_one (i := 9) (by kernel_rfl) rfl (by kernel_rfl) (fun K' hK' => ?_)
          refine wp_append_brow (.tmp 35) (.tmp 36) (by kernel_rfl) wc.heap.size v5 X (by kernel_rfl) HX5.out.2 _ (b8) 0 32 32 D (by kernel_rfl) (RowB.of_bV hD (blk_below HC.out.2.2.1 HX5.out.1 (Array.getElem?_eq_some_iff.1 HC.out.2.2.1).1)) (fun h => by cases h) (by rw [hX]; decide) HX5.out.1.size ?_
          intro v6 W6 hO6 hb6 _
          have HX6 := Lib.hid (show Below wc.heap.size wc W6 ∧ Byts W6 wc.heap.size v6 (X ++ D) from ⟨below_trans' HX5.out.1 hb6, hO6⟩)
          clear hO6 hb6 HX5
          refine hK' _ _ (HX6.out.1) ?_
          clear hK' K'
          go_simp
          obtain ⟨a6, b6', c6, rfl, hR6, hc6, _⟩ := HX6.out.2.row
          have hl6 : (X ++ D).length = 64 := by rw [List.length_append, hX, hD]
          rw [hl6] at hR6 hc6 ⊢
          refine wpAnyH_one (i := 10) (by kernel_rfl) rfl (by kernel_rfl) (fun K' hK' => ?_)
          go_simp
          refine (tagged_any ⟨#[99, 104, 97, 105, 110]⟩ a6 b6' 0 64 c6 (X ++ D) W6 ((HR0.out.2.below HC.out.2.2.2.2.1).below HX6.out.1) hR6 (fun h => by have h2 := hR6.adr (by decide); rw [h] at h2; cases h2) (by decide) (by decide)).mono ?_
          rintro e W7 ⟨rfl, hb7⟩
          rw [bV_dg, ← HS.out]
          have HY := Lib.hid (show Below wc.heap.size wc W7 from below_after HX6.out.1 hb7 HX6.out.1.size)
          clear hb7 HX6
          refine hK' _ _ (HY.out) ?_
          clear hK' K'
          go_simp
          refine wpAnyH_from (fuel := 0) 11 2 (fun _ _ _ _ _ h => h) (by kernel_rfl) (by decide) (by kernel_rfl) (HY.out) ?_
          simp only [List.drop_succ_cons, List.drop_zero, List.take_succ_cons, List.take_zero]
          refine wpHeld_cons (.bool false) (by kernel_rfl) ?_ ?_
          · rintro w' -
            try go_simp
            rw [run_eq_D (dgL sN) (dgL sN) (dgL_len _) (dgL_len _), decide_eq_true rfl]
            go_simp
          refine wpHeld_cons (.bool false) (by kernel_rfl) ?_ ?_
          · rintro w' -
            try go_simp
          refine wpHeld_nil ?_
          go_simp
          refine wpAnyH_done (by kernel_rfl) ?_ _
          refine NoPanic.normal ?_
          go_simp
          have hfin := HC.out.2.2.2.2.1.trans (HY.out.mono HC.out.2.2.2.2.1.size)
          have HI := Lib.hid (show ∃ X : List Int, X.length = 32 ∧ W7.heap[b5]? = some (.cells (bV X) 26 (0, 0)) ∧ W7.heap[b6]? = some (.cells (bV X) 26 (0, 0)) ∧ Below w.heap.size w W7 ∧ DigR W7 _ lb 0 m L from ⟨dgL sN, dgL_len _, blk_below HC.out.1 HY.out (blk_lt HC.out.1), blk_below HC.out.2.1 HY.out (blk_lt HC.out.2.1), hfin, HC.out.2.2.2.2.2.below HY.out (Nat.le_refl _)⟩)
          clear hfin
          go_wp2_with fail
          go_roundw
          case rel => exact ⟨j + 1, hjm, by go_num, HI⟩
          case measure => simp [intOf]; omega
      · obtain rfl : j = m := by omega
        have j1 : ¬ (j : Int) < (j : Int) := by omega
        go_wp2
        go_ret
        exact ⟨rfl, by obtain ⟨X, _, _, _, hb, _⟩ := HI.out; exact hb⟩
end Go.Proofs.YthbjjfblapfjdaaDoor
