/- DigestNext (layer 2). -/
import Derived.Test.YthbjjfblapfjdaaDoorDigFour
import Derived.Test.YthbjjfblapfjdaaDoorDigLawP
import Derived.Deep.Cut
namespace Go.Proofs.YthbjjfblapfjdaaDoor
open Go.ChangeShapes Go.WideShapes Go.ChangeAt Go.RowKit
theorem oneR {w : World} {g : Nat} {F : List Int} {t : TypeId} (hF : F.length = 32) (h : w.heap[g]? = some (.cells (bV F) t (0, 0))) : DigR w (some ⟨g, 0, none⟩) g 0 1 [F] :=
  ⟨rfl, fun i hi => by obtain rfl : i = 0 := by omega
                       exact hF, fun _ => rfl, fun _ => blk_lt h, fun i j hi hj => by
    obtain rfl : i = 0 := by omega
    have hc := (RowB.of_bV hF h).cel j hj
    rw [show 0 + 0 * 32 + j = 0 + j by omega]
    exact hc⟩
theorem half_pow (q : Nat) : halfN (2 ^ q + 1) = 2 ^ q := by
  unfold halfN
  rw [Nat.add_sub_cancel, Nat.log2_two_pow]
def IsPow (k : Nat) : Prop := ∃ q, k = 2 ^ q
theorem IsPow.half {k : Nat} (h : IsPow k) : halfN (k + 1) = k := by
  obtain ⟨q, rfl⟩ := h
  exact half_pow q
theorem IsPow.pos {k : Nat} (h : IsPow k) : 0 < k := by
  obtain ⟨q, rfl⟩ := h
  exact Nat.pow_pos (by decide)
theorem IsPow.dbl {k : Nat} (h : IsPow k) : IsPow (k * 2) := by
  obtain ⟨q, rfl⟩ := h
  exact ⟨q + 1, by rw [Nat.pow_succ]⟩
set_option maxRecDepth 100000 in
set_option maxHeartbeats 40000000 in
theorem next_walk (a : Option Addr) (b off n cap : Nat) (l F : List Int) (hF : F.length = 32) (w : World) (hK : Keys w) (hR : RowB w a b off n l) (hn : n ≤ 9223372036854775807) :
    Calls Tryd.prog 8 #[.slice a n cap, .agg (bV F)] w fun e w' => e = .returned (.bool true) ∧ Below w.heap.size w w' := by
  have HR0 := Lib.hid (show _ ∧ _ from ⟨hR, hK⟩)
  clear hR hK
  go_enter Tryd.func8, Tryd.ntmps8
  go_upto_region 1 with fail
  have hb := blk_new w (.cells (bV F) 26)
  have hB : Below w.heap.size w (w.alloc (.cells (bV F) 26)) := (Below.refl _ _).alloc (Nat.le_refl _) _
  have HA := Lib.hid (show _ ∧ _ ∧ Keys _ from ⟨hb, hB, HR0.out.2.below hB⟩)
  clear hb hB
  generalize w.alloc (.cells (bV F) 26) = WA at *
  go_wp2_with (go_at_call 11; refine (sane_any _ HA.out.2.2).mono ?_; rintro e WS ⟨rfl, hbS⟩)
  have hbw := HA.out.2.1.trans (hbS.mono HA.out.2.1.size)
  have HW := Lib.hid (show _ ∧ Below w.heap.size w WS ∧ Keys WS from ⟨blk_below HA.out.1 hbS (blk_lt HA.out.1), hbw, HA.out.2.2.below hbS⟩)
  clear hbw hbS HA
  go_wp2_with fail
  refine (of_any a b off n cap l _ (HR0.out.1.below HW.out.2.1 (Nat.le_refl _)) hn).mono ?_
  rintro e W1 ⟨v, rfl, hO, hb1⟩
  obtain ⟨la, lb, lcap, rfl, hDg, hlnc, hlc, hlm, hla⟩ := hO.s
  obtain ⟨m, hm⟩ : ∃ m, m = min n 24 := ⟨_, rfl⟩
  rw [← hm] at hDg hlc ⊢
  obtain ⟨L, hL⟩ : ∃ L, L = ofL l m := ⟨_, rfl⟩
  rw [← hL] at hDg hlc ⊢
  have hLl : L.length = m := by rw [hL, ofL_len]
  rw [hLl] at hDg hlc ⊢
  have hm24 : m ≤ 24 := by omega
  have hbw := HW.out.2.1.trans (hb1.mono HW.out.2.1.size)
  have HE := Lib.hid (show W1.heap[w.heap.size]? = _ ∧ DigR W1 la lb 0 m L ∧ Below w.heap.size w W1 ∧ Keys W1 from ⟨blk_below HW.out.1 hb1 (blk_lt HW.out.1), hDg, hbw, HW.out.2.2.below hb1⟩)
  have HL := Lib.hid hLl
  clear hDg hb1 hO hL hm hLl hla hbw HW
  unfold maxLen at hlm
  go_wp2_with fail
  go_loopw [6] (fun v wr => ∃ k : Nat, IsPow k ∧ k ≤ 2 * 24 ∧ v = .int .i64 k ∧ Below W1.heap.size W1 wr) (fun v _ => 64 - (intOf v).toNat)
  case atStart => exact ⟨1, ⟨0, rfl⟩, by omega, rfl, Below.refl _ _⟩
  case round =>
    obtain ⟨k, hpw, hk48, rfl, hB⟩ := hrel
    have hk0 := hpw.pos
    have hh := hpw.half
    have hdb := Lib.hid hpw.dbl
    clear hpw
    by_cases hkm : k ≤ m
    · have j1 : (k : Int) ≤ (m : Int) := by omega
      have u1 : IntKind.i64.wrap ((k : Int) * 2) = ((k * 2 : Nat) : Int) := (wrap_id (by omega)).trans (by omega)
      have i3 : ¬ lcap < k := by omega
      have i6 : k ≤ lcap := by omega
      obtain rfl := HE.out.2.1.adr (by omega)
      have HR := Lib.hid (show wr.heap[w.heap.size]? = _ ∧ DigR wr _ lb 0 m L ∧ Below w.heap.size w wr ∧ Keys wr from ⟨blk_below HE.out.1 hB (blk_lt HE.out.1), HE.out.2.1.below hB (Nat.le_refl _), HE.out.2.2.1.trans (hB.mono HE.out.2.2.1.size), HE.out.2.2.2.below hB⟩)
      have HBr := Lib.hid hB
      clear hB
      obtain ⟨sA, hsA⟩ : ∃ s, s = treeS (L.take k) := ⟨_, rfl⟩
      obtain ⟨sB, hsB⟩ : ∃ s, s = treeS [F] := ⟨_, rfl⟩
      obtain ⟨sR, hsR⟩ : ∃ s, s = tagS ⟨#[110, 111, 100, 101]⟩ (dgL sA ++ dgL sB) := ⟨_, rfl⟩
      have hlk : (L.take k).length = k := by rw [List.length_take, HL.out]; omega
      have hln : (L.take k ++ [F]).length = k + 1 := by rw [List.length_append, hlk]; rfl
      have hT := treeS_node (l := L.take k ++ [F]) (by rw [hln]; omega)
      rw [hln, hh, List.take_left' hlk, List.drop_left' hlk, ← hsA, ← hsB, ← hsR] at hT
      have hPt := pathL_high (l := L.take k ++ [F]) (i := k) hln (by omega) hh.symm (Nat.le_refl _)
      rw [List.take_left' hlk, List.drop_left' hlk, ← hsA, pathL_one (l := [F]) _ rfl, List.nil_append] at hPt
      have HS := Lib.hid (show _ ∧ _ ∧ _ ∧ _ ∧ _ ∧ _ ∧ _ from ⟨hsA, hsB, hsR, hT, hPt, hlk, hln⟩)
      clear hsA hsB hsR hT hPt hlk hln hh
      go_upto_region 7 with fail
      go_cut [7, 8] from 22 (fun s7 s8 wx => TwoD (dgL sA) (dgL sB) wr s7 s8 wx)
      case first =>
        refine wp_region_from 0 3 (fun w' => Below wr.heap.size wr w') (by kernel_rfl) (by kernel_rfl) (by decide) (by kernel_rfl) ((Below.refl _ _).drew) ?_
        simp only [List.drop_zero, List.take_succ_cons, List.take_zero]
        refine wpHeld_cons (.slice (some ⟨lb, 0, none⟩) m lcap) (by kernel_rfl) ?_ ?_
        · rintro w' -
          try go_simp
        refine wpHeld_cons (.int .i64 k) (by kernel_rfl) ?_ ?_
        · rintro w' -
          try go_simp
        refine wpHeld_cons (.slice (some ⟨lb, 0, none⟩) k lcap) (by kernel_rfl) ?_ ?_
        · rintro w' -
          try go_simp
        refine wpHeld_nil ?_
        refine wpAnyH_from (fuel := 7) 4 1 (fun _ _ _ _ _ h => h) (by kernel_rfl) (by decide) (by kernel_rfl) ((Below.refl _ _).drew) ?_
        simp only [List.drop_succ_cons, List.drop_zero, List.take_succ_cons, List.take_zero]
        refine wpHeld_load (.tmp 3) (by kernel_rfl) (by kernel_rfl) (w.heap.size) (0) (by kernel_rfl) (F) hF (fun w' hS => (RowB.of_bV hF (blk_below HR.out.1 hS (blk_lt HR.out.1))).range) ?_
        refine wpHeld_nil ?_
        go_simp
        have H0 := Lib.hid (show Below wr.heap.size wr wr.drew from (Below.refl _ _).drew)
        refine wpAnyH_four (i := 3) (j := 5) (k := 7) (l := 8) (by kernel_rfl) rfl rfl rfl rfl (by kernel_rfl) (by kernel_rfl) (by kernel_rfl) (by kernel_rfl) (fun K' hK' => ?_) (fun K' hK' => ?_) (fun K' hK' => ?_) (fun K' hK' => ?_)
        · go_simp
          refine (tree_any k (by omega) (some ⟨lb, 0, none⟩) lb 0 lcap (L.take k) _ ((HR.out.2.1.take hkm hk0).below (H0.out) (Nat.le_refl _)) (by omega) (HR.out.2.2.2.below (H0.out))).mono ?_
          rintro e WO1 ⟨rfl, hb1⟩
          rw [bV_dg, ← HS.out.1]
          have HO1 := Lib.hid (show Below wr.heap.size wr WO1 from below_after H0.out hb1 H0.out.size)
          clear hb1
          refine hK' _ _ (HO1.out) ?_
          clear hK' K'
          go_simp
          refine wpAnyH_three (i := 5) (j := 7) (k := 8) (by kernel_rfl) rfl rfl rfl (by kernel_rfl) (by kernel_rfl) (by kernel_rfl) (fun K' hK' => ?_) (fun K' hK' => ?_) (fun K' hK' => ?_)
          · refine wp_build_D (.tmp 26) rfl F hF (by kernel_rfl) ?_
            have HO2 := Lib.hid (show Below wr.heap.size wr _ ∧ wr.heap.size ≤ WO1.heap.size ∧ _ from ⟨HO1.out.alloc HO1.out.size (.cells (bV F) 26), HO1.out.size, blk_new WO1 (.cells (bV F) 26)⟩)
            generalize WO1.alloc (.cells (bV F) 26) = WO2 at *
            refine hK' _ _ (HO2.out.1) ?_
            clear hK' K'
            go_simp
            refine wpAnyH_three (i := 6) (j := 7) (k := 8) (by kernel_rfl) rfl rfl rfl (by kernel_rfl) (by kernel_rfl) (by kernel_rfl) (fun K' hK' => ?_) (fun K' hK' => ?_) (fun K' hK' => ?_)
            · go_simp
              refine (tree_any 1 (by omega) (some ⟨WO1.heap.size, 0, none⟩) (WO1.heap.size) 0 1 [F] _ (oneR hF (HO2.out.2.2)) (by omega) (HR.out.2.2.2.below (HO2.out.1))).mono ?_
              rintro e WO3 ⟨rfl, hb3⟩
              rw [bV_dg, ← HS.out.2.1]
              have HO3 := Lib.hid (show Below wr.heap.size wr WO3 ∧ _ ∧ _ from ⟨below_after HO2.out.1 hb3 HO2.out.1.size, HO2.out.2.1, blk_below HO2.out.2.2 hb3 (blk_lt HO2.out.2.2)⟩)
              clear hb3
              refine hK' _ _ (HO3.out.1) ?_
              clear hK' K'
              go_simp
              refine wpAnyH_two (i := 7) (j := 8) (by kernel_rfl) rfl rfl (by kernel_rfl) (by kernel_rfl) (fun K' hK' => ?_) (fun K' hK' => ?_)
              · go_simp
                rw [zL_val]
                have HO4 := Lib.hid (show Below wr.heap.size wr _ ∧ wr.heap.size ≤ WO1.heap.size ∧ _ ∧ WO1.heap.size ≠ WO3.heap.size ∧ wr.heap.size ≤ WO3.heap.size ∧ _ from ⟨HO3.out.1.alloc HO3.out.1.size (.cells (bV zL) 26), HO3.out.2.1, blk_alloc HO3.out.2.2 (.cells (bV zL) 26), other_block HO3.out.2.2 (Nat.le_refl _), HO3.out.1.size, blk_new WO3 (.cells (bV zL) 26)⟩)
                generalize WO3.alloc (.cells (bV zL) 26) = WO4 at *
                refine hK' _ _ (HO4.out.1) ?_
                clear hK' K'
                go_simp
                refine wpAnyH_one (i := 8) (by kernel_rfl) rfl (by kernel_rfl) (fun K' hK' => ?_)
                go_simp
                rw [zL_val]
                have HO5 := Lib.hid (show Below wr.heap.size wr _ ∧ wr.heap.size ≤ WO1.heap.size ∧ _ ∧ WO1.heap.size ≠ WO3.heap.size ∧ wr.heap.size ≤ WO3.heap.size ∧ _ ∧ WO1.heap.size ≠ WO4.heap.size ∧ WO3.heap.size ≠ WO4.heap.size ∧ wr.heap.size ≤ WO4.heap.size ∧ _ from ⟨HO4.out.1.alloc HO4.out.1.size (.cells (bV zL) 26), HO4.out.2.1, blk_alloc HO4.out.2.2.1 (.cells (bV zL) 26), HO4.out.2.2.2.1, HO4.out.2.2.2.2.1, blk_alloc HO4.out.2.2.2.2.2 (.cells (bV zL) 26), other_block HO4.out.2.2.1 (Nat.le_refl _), other_block HO4.out.2.2.2.2.2 (Nat.le_refl _), HO4.out.1.size, blk_new WO4 (.cells (bV zL) 26)⟩)
                generalize WO4.alloc (.cells (bV zL) 26) = WO5 at *
                refine hK' _ _ (HO5.out.1) ?_
                clear hK' K'
                go_simp
                refine wpAnyH_one (i := 9) (by kernel_rfl) rfl (by kernel_rfl) (fun K' hK' => ?_)
                refine wp_store_row 26 (.tmp 7) (.tmp 25) (by kernel_rfl) WO3.heap.size (bV (dgL sA)) (by kernel_rfl) (by kernel_rfl) 26 _ HO5.out.2.2.2.2.2.1 (sz_in (dgL_len _)) (sz_eq zL_len (dgL_len _)) (bV_one _) ?_
                have hf5 := setRow_heap _ WO3.heap.size _ (bV (dgL sA)) 26 (0, 0) HO5.out.2.2.2.2.2.1
                have hf6 := (setRow_other WO5 WO3.heap.size WO4.heap.size (bV (dgL sA)) (Ne.symm HO5.out.2.2.2.2.2.2.2.1)).trans HO5.out.2.2.2.2.2.2.2.2.2
                have hbw := below_setRow HO5.out.1 HO5.out.2.2.2.2.1 (bV (dgL sA))
                generalize WO5.setRow WO3.heap.size (bV (dgL sA)) = WZ at *
                refine hK' _ _ (hbw) ?_
                clear hK' K'
                go_simp
                refine wpAnyH_one (i := 10) (by kernel_rfl) rfl (by kernel_rfl) (fun K' hK' => ?_)
                refine wp_store_row 26 (.tmp 8) (.tmp 28) (by kernel_rfl) WO4.heap.size (bV (dgL sB)) (by kernel_rfl) (by kernel_rfl) 26 _ hf6 (sz_in (dgL_len _)) (sz_eq zL_len (dgL_len _)) (bV_one _) ?_
                have hg6 := setRow_heap _ WO4.heap.size _ (bV (dgL sB)) 26 (0, 0) hf6
                have hg5 := (setRow_other WZ WO4.heap.size WO3.heap.size (bV (dgL sB)) HO5.out.2.2.2.2.2.2.2.1).trans hf5
                have hbw2 := below_setRow hbw HO5.out.2.2.2.2.2.2.2.2.1 (bV (dgL sB))
                have HM := Lib.hid (show TwoD (dgL sA) (dgL sB) wr (.pointer (some ⟨WO3.heap.size, 0, none⟩)) (.pointer (some ⟨WO4.heap.size, 0, none⟩)) (WZ.setRow WO4.heap.size (bV (dgL sB))) from ⟨_, _, rfl, rfl, hg5, hg6, hbw2, HO5.out.2.2.2.2.1, HO5.out.2.2.2.2.2.2.2.2.1, HO5.out.2.2.2.2.2.2.2.1⟩)
                generalize WZ.setRow WO4.heap.size (bV (dgL sB)) = WY at *
                clear hg6 hg5 hf5 hf6 hbw
                refine hK' _ _ (hbw2) ?_
                clear hK' K'
                go_simp
                refine wpAnyH_done (by kernel_rfl) ?_ _
                refine NoPanic.normal ?_
                go_simp
                go_wp2_with fail
                go_meet
                case rel => exact HM.out
              · go_simp
                rw [zL_val]
                have HO6 := Lib.hid (show Below wr.heap.size wr _ ∧ wr.heap.size ≤ WO1.heap.size ∧ _ ∧ WO1.heap.size ≠ WO3.heap.size ∧ wr.heap.size ≤ WO3.heap.size ∧ _ from ⟨HO3.out.1.alloc HO3.out.1.size (.cells (bV zL) 26), HO3.out.2.1, blk_alloc HO3.out.2.2 (.cells (bV zL) 26), other_block HO3.out.2.2 (Nat.le_refl _), HO3.out.1.size, blk_new WO3 (.cells (bV zL) 26)⟩)
                generalize WO3.alloc (.cells (bV zL) 26) = WO6 at *
                refine hK' _ _ (HO6.out.1) ?_
                clear hK' K'
                go_simp
                refine wpAnyH_one (i := 7) (by kernel_rfl) rfl (by kernel_rfl) (fun K' hK' => ?_)
                go_simp
                rw [zL_val]
                have HO7 := Lib.hid (show Below wr.heap.size wr _ ∧ wr.heap.size ≤ WO1.heap.size ∧ _ ∧ WO1.heap.size ≠ WO3.heap.size ∧ wr.heap.size ≤ WO3.heap.size ∧ _ ∧ WO1.heap.size ≠ WO6.heap.size ∧ WO3.heap.size ≠ WO6.heap.size ∧ wr.heap.size ≤ WO6.heap.size ∧ _ from ⟨HO6.out.1.alloc HO6.out.1.size (.cells (bV zL) 26), HO6.out.2.1, blk_alloc HO6.out.2.2.1 (.cells (bV zL) 26), HO6.out.2.2.2.1, HO6.out.2.2.2.2.1, blk_alloc HO6.out.2.2.2.2.2 (.cells (bV zL) 26), other_block HO6.out.2.2.1 (Nat.le_refl _), other_block HO6.out.2.2.2.2.2 (Nat.le_refl _), HO6.out.1.size, blk_new WO6 (.cells (bV zL) 26)⟩)
                generalize WO6.alloc (.cells (bV zL) 26) = WO7 at *
                refine hK' _ _ (HO7.out.1) ?_
                clear hK' K'
                go_simp
                refine wpAnyH_one (i := 9) (by kernel_rfl) rfl (by kernel_rfl) (fun K' hK' => ?_)
                refine wp_store_row 26 (.tmp 7) (.tmp 25) (by kernel_rfl) WO6.heap.size (bV (dgL sA)) (by kernel_rfl) (by kernel_rfl) 26 _ HO7.out.2.2.2.2.2.2.2.2.2 (sz_in (dgL_len _)) (sz_eq zL_len (dgL_len _)) (bV_one _) ?_
                have hf5 := setRow_heap _ WO6.heap.size _ (bV (dgL sA)) 26 (0, 0) HO7.out.2.2.2.2.2.2.2.2.2
                have hf6 := (setRow_other WO7 WO6.heap.size WO3.heap.size (bV (dgL sA)) HO7.out.2.2.2.2.2.2.2.1).trans HO7.out.2.2.2.2.2.1
                have hbw := below_setRow HO7.out.1 HO7.out.2.2.2.2.2.2.2.2.1 (bV (dgL sA))
                generalize WO7.setRow WO6.heap.size (bV (dgL sA)) = WZ at *
                refine hK' _ _ (hbw) ?_
                clear hK' K'
                go_simp
                refine wpAnyH_one (i := 10) (by kernel_rfl) rfl (by kernel_rfl) (fun K' hK' => ?_)
                refine wp_store_row 26 (.tmp 8) (.tmp 28) (by kernel_rfl) WO3.heap.size (bV (dgL sB)) (by kernel_rfl) (by kernel_rfl) 26 _ hf6 (sz_in (dgL_len _)) (sz_eq zL_len (dgL_len _)) (bV_one _) ?_
                have hg6 := setRow_heap _ WO3.heap.size _ (bV (dgL sB)) 26 (0, 0) hf6
                have hg5 := (setRow_other WZ WO3.heap.size WO6.heap.size (bV (dgL sB)) (Ne.symm HO7.out.2.2.2.2.2.2.2.1)).trans hf5
                have hbw2 := below_setRow hbw HO7.out.2.2.2.2.1 (bV (dgL sB))
                have HM := Lib.hid (show TwoD (dgL sA) (dgL sB) wr (.pointer (some ⟨WO6.heap.size, 0, none⟩)) (.pointer (some ⟨WO3.heap.size, 0, none⟩)) (WZ.setRow WO3.heap.size (bV (dgL sB))) from ⟨_, _, rfl, rfl, hg5, hg6, hbw2, HO7.out.2.2.2.2.2.2.2.2.1, HO7.out.2.2.2.2.1, (Ne.symm HO7.out.2.2.2.2.2.2.2.1)⟩)
                generalize WZ.setRow WO3.heap.size (bV (dgL sB)) = WY at *
                clear hg6 hg5 hf5 hf6 hbw
                refine hK' _ _ (hbw2) ?_
                clear hK' K'
                go_simp
                refine wpAnyH_done (by kernel_rfl) ?_ _
                refine NoPanic.normal ?_
                go_simp
                go_wp2_with fail
                go_meet
                case rel => exact HM.out
            · go_simp
              rw [zL_val]
              have HO8 := Lib.hid (show Below wr.heap.size wr _ ∧ wr.heap.size ≤ WO1.heap.size ∧ _ ∧ WO1.heap.size ≠ WO2.heap.size ∧ wr.heap.size ≤ WO2.heap.size ∧ _ from ⟨HO2.out.1.alloc HO2.out.1.size (.cells (bV zL) 26), HO2.out.2.1, blk_alloc HO2.out.2.2 (.cells (bV zL) 26), other_block HO2.out.2.2 (Nat.le_refl _), HO2.out.1.size, blk_new WO2 (.cells (bV zL) 26)⟩)
              generalize WO2.alloc (.cells (bV zL) 26) = WO8 at *
              refine hK' _ _ (HO8.out.1) ?_
              clear hK' K'
              go_simp
              refine wpAnyH_two (i := 6) (j := 8) (by kernel_rfl) rfl rfl (by kernel_rfl) (by kernel_rfl) (fun K' hK' => ?_) (fun K' hK' => ?_)
              · go_simp
                refine (tree_any 1 (by omega) (some ⟨WO1.heap.size, 0, none⟩) (WO1.heap.size) 0 1 [F] _ (oneR hF (HO8.out.2.2.1)) (by omega) (HR.out.2.2.2.below (HO8.out.1))).mono ?_
                rintro e WO9 ⟨rfl, hb9⟩
                rw [bV_dg, ← HS.out.2.1]
                have HO9 := Lib.hid (show Below wr.heap.size wr WO9 ∧ _ ∧ _ ∧ _ ∧ _ ∧ _ from ⟨below_after HO8.out.1 hb9 HO8.out.1.size, HO8.out.2.1, blk_below HO8.out.2.2.1 hb9 (blk_lt HO8.out.2.2.1), HO8.out.2.2.2.1, HO8.out.2.2.2.2.1, blk_below HO8.out.2.2.2.2.2 hb9 (blk_lt HO8.out.2.2.2.2.2)⟩)
                clear hb9
                refine hK' _ _ (HO9.out.1) ?_
                clear hK' K'
                go_simp
                refine wpAnyH_one (i := 8) (by kernel_rfl) rfl (by kernel_rfl) (fun K' hK' => ?_)
                go_simp
                rw [zL_val]
                have HO10 := Lib.hid (show Below wr.heap.size wr _ ∧ wr.heap.size ≤ WO1.heap.size ∧ _ ∧ WO1.heap.size ≠ WO2.heap.size ∧ wr.heap.size ≤ WO2.heap.size ∧ _ ∧ WO1.heap.size ≠ WO9.heap.size ∧ WO2.heap.size ≠ WO9.heap.size ∧ wr.heap.size ≤ WO9.heap.size ∧ _ from ⟨HO9.out.1.alloc HO9.out.1.size (.cells (bV zL) 26), HO9.out.2.1, blk_alloc HO9.out.2.2.1 (.cells (bV zL) 26), HO9.out.2.2.2.1, HO9.out.2.2.2.2.1, blk_alloc HO9.out.2.2.2.2.2 (.cells (bV zL) 26), other_block HO9.out.2.2.1 (Nat.le_refl _), other_block HO9.out.2.2.2.2.2 (Nat.le_refl _), HO9.out.1.size, blk_new WO9 (.cells (bV zL) 26)⟩)
                generalize WO9.alloc (.cells (bV zL) 26) = WO10 at *
                refine hK' _ _ (HO10.out.1) ?_
                clear hK' K'
                go_simp
                refine wpAnyH_one (i := 9) (by kernel_rfl) rfl (by kernel_rfl) (fun K' hK' => ?_)
                refine wp_store_row 26 (.tmp 7) (.tmp 25) (by kernel_rfl) WO2.heap.size (bV (dgL sA)) (by kernel_rfl) (by kernel_rfl) 26 _ HO10.out.2.2.2.2.2.1 (sz_in (dgL_len _)) (sz_eq zL_len (dgL_len _)) (bV_one _) ?_
                have hf5 := setRow_heap _ WO2.heap.size _ (bV (dgL sA)) 26 (0, 0) HO10.out.2.2.2.2.2.1
                have hf6 := (setRow_other WO10 WO2.heap.size WO9.heap.size (bV (dgL sA)) (Ne.symm HO10.out.2.2.2.2.2.2.2.1)).trans HO10.out.2.2.2.2.2.2.2.2.2
                have hbw := below_setRow HO10.out.1 HO10.out.2.2.2.2.1 (bV (dgL sA))
                generalize WO10.setRow WO2.heap.size (bV (dgL sA)) = WZ at *
                refine hK' _ _ (hbw) ?_
                clear hK' K'
                go_simp
                refine wpAnyH_one (i := 10) (by kernel_rfl) rfl (by kernel_rfl) (fun K' hK' => ?_)
                refine wp_store_row 26 (.tmp 8) (.tmp 28) (by kernel_rfl) WO9.heap.size (bV (dgL sB)) (by kernel_rfl) (by kernel_rfl) 26 _ hf6 (sz_in (dgL_len _)) (sz_eq zL_len (dgL_len _)) (bV_one _) ?_
                have hg6 := setRow_heap _ WO9.heap.size _ (bV (dgL sB)) 26 (0, 0) hf6
                have hg5 := (setRow_other WZ WO9.heap.size WO2.heap.size (bV (dgL sB)) HO10.out.2.2.2.2.2.2.2.1).trans hf5
                have hbw2 := below_setRow hbw HO10.out.2.2.2.2.2.2.2.2.1 (bV (dgL sB))
                have HM := Lib.hid (show TwoD (dgL sA) (dgL sB) wr (.pointer (some ⟨WO2.heap.size, 0, none⟩)) (.pointer (some ⟨WO9.heap.size, 0, none⟩)) (WZ.setRow WO9.heap.size (bV (dgL sB))) from ⟨_, _, rfl, rfl, hg5, hg6, hbw2, HO10.out.2.2.2.2.1, HO10.out.2.2.2.2.2.2.2.2.1, HO10.out.2.2.2.2.2.2.2.1⟩)
                generalize WZ.setRow WO9.heap.size (bV (dgL sB)) = WY at *
                clear hg6 hg5 hf5 hf6 hbw
                refine hK' _ _ (hbw2) ?_
                clear hK' K'
                go_simp
                refine wpAnyH_done (by kernel_rfl) ?_ _
                refine NoPanic.normal ?_
                go_simp
                go_wp2_with fail
                go_meet
                case rel => exact HM.out
              · go_simp
                rw [zL_val]
                have HO11 := Lib.hid (show Below wr.heap.size wr _ ∧ wr.heap.size ≤ WO1.heap.size ∧ _ ∧ WO1.heap.size ≠ WO2.heap.size ∧ wr.heap.size ≤ WO2.heap.size ∧ _ ∧ WO1.heap.size ≠ WO8.heap.size ∧ WO2.heap.size ≠ WO8.heap.size ∧ wr.heap.size ≤ WO8.heap.size ∧ _ from ⟨HO8.out.1.alloc HO8.out.1.size (.cells (bV zL) 26), HO8.out.2.1, blk_alloc HO8.out.2.2.1 (.cells (bV zL) 26), HO8.out.2.2.2.1, HO8.out.2.2.2.2.1, blk_alloc HO8.out.2.2.2.2.2 (.cells (bV zL) 26), other_block HO8.out.2.2.1 (Nat.le_refl _), other_block HO8.out.2.2.2.2.2 (Nat.le_refl _), HO8.out.1.size, blk_new WO8 (.cells (bV zL) 26)⟩)
                generalize WO8.alloc (.cells (bV zL) 26) = WO11 at *
                refine hK' _ _ (HO11.out.1) ?_
                clear hK' K'
                go_simp
                refine wpAnyH_one (i := 6) (by kernel_rfl) rfl (by kernel_rfl) (fun K' hK' => ?_)
                go_simp
                refine (tree_any 1 (by omega) (some ⟨WO1.heap.size, 0, none⟩) (WO1.heap.size) 0 1 [F] _ (oneR hF (HO11.out.2.2.1)) (by omega) (HR.out.2.2.2.below (HO11.out.1))).mono ?_
                rintro e WO12 ⟨rfl, hb12⟩
                rw [bV_dg, ← HS.out.2.1]
                have HO12 := Lib.hid (show Below wr.heap.size wr WO12 ∧ _ ∧ _ ∧ _ ∧ _ ∧ _ ∧ _ ∧ _ ∧ _ ∧ _ from ⟨below_after HO11.out.1 hb12 HO11.out.1.size, HO11.out.2.1, blk_below HO11.out.2.2.1 hb12 (blk_lt HO11.out.2.2.1), HO11.out.2.2.2.1, HO11.out.2.2.2.2.1, blk_below HO11.out.2.2.2.2.2.1 hb12 (blk_lt HO11.out.2.2.2.2.2.1), HO11.out.2.2.2.2.2.2.1, HO11.out.2.2.2.2.2.2.2.1, HO11.out.2.2.2.2.2.2.2.2.1, blk_below HO11.out.2.2.2.2.2.2.2.2.2 hb12 (blk_lt HO11.out.2.2.2.2.2.2.2.2.2)⟩)
                clear hb12
                refine hK' _ _ (HO12.out.1) ?_
                clear hK' K'
                go_simp
                refine wpAnyH_one (i := 9) (by kernel_rfl) rfl (by kernel_rfl) (fun K' hK' => ?_)
                refine wp_store_row 26 (.tmp 7) (.tmp 25) (by kernel_rfl) WO2.heap.size (bV (dgL sA)) (by kernel_rfl) (by kernel_rfl) 26 _ HO12.out.2.2.2.2.2.1 (sz_in (dgL_len _)) (sz_eq zL_len (dgL_len _)) (bV_one _) ?_
                have hf5 := setRow_heap _ WO2.heap.size _ (bV (dgL sA)) 26 (0, 0) HO12.out.2.2.2.2.2.1
                have hf6 := (setRow_other WO12 WO2.heap.size WO8.heap.size (bV (dgL sA)) (Ne.symm HO12.out.2.2.2.2.2.2.2.1)).trans HO12.out.2.2.2.2.2.2.2.2.2
                have hbw := below_setRow HO12.out.1 HO12.out.2.2.2.2.1 (bV (dgL sA))
                generalize WO12.setRow WO2.heap.size (bV (dgL sA)) = WZ at *
                refine hK' _ _ (hbw) ?_
                clear hK' K'
                go_simp
                refine wpAnyH_one (i := 10) (by kernel_rfl) rfl (by kernel_rfl) (fun K' hK' => ?_)
                refine wp_store_row 26 (.tmp 8) (.tmp 28) (by kernel_rfl) WO8.heap.size (bV (dgL sB)) (by kernel_rfl) (by kernel_rfl) 26 _ hf6 (sz_in (dgL_len _)) (sz_eq zL_len (dgL_len _)) (bV_one _) ?_
                have hg6 := setRow_heap _ WO8.heap.size _ (bV (dgL sB)) 26 (0, 0) hf6
                have hg5 := (setRow_other WZ WO8.heap.size WO2.heap.size (bV (dgL sB)) HO12.out.2.2.2.2.2.2.2.1).trans hf5
                have hbw2 := below_setRow hbw HO12.out.2.2.2.2.2.2.2.2.1 (bV (dgL sB))
                have HM := Lib.hid (show TwoD (dgL sA) (dgL sB) wr (.pointer (some ⟨WO2.heap.size, 0, none⟩)) (.pointer (some ⟨WO8.heap.size, 0, none⟩)) (WZ.setRow WO8.heap.size (bV (dgL sB))) from ⟨_, _, rfl, rfl, hg5, hg6, hbw2, HO12.out.2.2.2.2.1, HO12.out.2.2.2.2.2.2.2.2.1, HO12.out.2.2.2.2.2.2.2.1⟩)
                generalize WZ.setRow WO8.heap.size (bV (dgL sB)) = WY at *
                clear hg6 hg5 hf5 hf6 hbw
                refine hK' _ _ (hbw2) ?_
                clear hK' K'
                go_simp
                refine wpAnyH_done (by kernel_rfl) ?_ _
                refine NoPanic.normal ?_
                go_simp
                go_wp2_with fail
                go_meet
                case rel => exact HM.out
            · go_simp
              rw [zL_val]
              have HO13 := Lib.hid (show Below wr.heap.size wr _ ∧ wr.heap.size ≤ WO1.heap.size ∧ _ ∧ WO1.heap.size ≠ WO2.heap.size ∧ wr.heap.size ≤ WO2.heap.size ∧ _ from ⟨HO2.out.1.alloc HO2.out.1.size (.cells (bV zL) 26), HO2.out.2.1, blk_alloc HO2.out.2.2 (.cells (bV zL) 26), other_block HO2.out.2.2 (Nat.le_refl _), HO2.out.1.size, blk_new WO2 (.cells (bV zL) 26)⟩)
              generalize WO2.alloc (.cells (bV zL) 26) = WO13 at *
              refine hK' _ _ (HO13.out.1) ?_
              clear hK' K'
              go_simp
              refine wpAnyH_two (i := 6) (j := 7) (by kernel_rfl) rfl rfl (by kernel_rfl) (by kernel_rfl) (fun K' hK' => ?_) (fun K' hK' => ?_)
              · go_simp
                refine (tree_any 1 (by omega) (some ⟨WO1.heap.size, 0, none⟩) (WO1.heap.size) 0 1 [F] _ (oneR hF (HO13.out.2.2.1)) (by omega) (HR.out.2.2.2.below (HO13.out.1))).mono ?_
                rintro e WO14 ⟨rfl, hb14⟩
                rw [bV_dg, ← HS.out.2.1]
                have HO14 := Lib.hid (show Below wr.heap.size wr WO14 ∧ _ ∧ _ ∧ _ ∧ _ ∧ _ from ⟨below_after HO13.out.1 hb14 HO13.out.1.size, HO13.out.2.1, blk_below HO13.out.2.2.1 hb14 (blk_lt HO13.out.2.2.1), HO13.out.2.2.2.1, HO13.out.2.2.2.2.1, blk_below HO13.out.2.2.2.2.2 hb14 (blk_lt HO13.out.2.2.2.2.2)⟩)
                clear hb14
                refine hK' _ _ (HO14.out.1) ?_
                clear hK' K'
                go_simp
                refine wpAnyH_one (i := 7) (by kernel_rfl) rfl (by kernel_rfl) (fun K' hK' => ?_)
                go_simp
                rw [zL_val]
                have HO15 := Lib.hid (show Below wr.heap.size wr _ ∧ wr.heap.size ≤ WO1.heap.size ∧ _ ∧ WO1.heap.size ≠ WO2.heap.size ∧ wr.heap.size ≤ WO2.heap.size ∧ _ ∧ WO1.heap.size ≠ WO14.heap.size ∧ WO2.heap.size ≠ WO14.heap.size ∧ wr.heap.size ≤ WO14.heap.size ∧ _ from ⟨HO14.out.1.alloc HO14.out.1.size (.cells (bV zL) 26), HO14.out.2.1, blk_alloc HO14.out.2.2.1 (.cells (bV zL) 26), HO14.out.2.2.2.1, HO14.out.2.2.2.2.1, blk_alloc HO14.out.2.2.2.2.2 (.cells (bV zL) 26), other_block HO14.out.2.2.1 (Nat.le_refl _), other_block HO14.out.2.2.2.2.2 (Nat.le_refl _), HO14.out.1.size, blk_new WO14 (.cells (bV zL) 26)⟩)
                generalize WO14.alloc (.cells (bV zL) 26) = WO15 at *
                refine hK' _ _ (HO15.out.1) ?_
                clear hK' K'
                go_simp
                refine wpAnyH_one (i := 9) (by kernel_rfl) rfl (by kernel_rfl) (fun K' hK' => ?_)
                refine wp_store_row 26 (.tmp 7) (.tmp 25) (by kernel_rfl) WO14.heap.size (bV (dgL sA)) (by kernel_rfl) (by kernel_rfl) 26 _ HO15.out.2.2.2.2.2.2.2.2.2 (sz_in (dgL_len _)) (sz_eq zL_len (dgL_len _)) (bV_one _) ?_
                have hf5 := setRow_heap _ WO14.heap.size _ (bV (dgL sA)) 26 (0, 0) HO15.out.2.2.2.2.2.2.2.2.2
                have hf6 := (setRow_other WO15 WO14.heap.size WO2.heap.size (bV (dgL sA)) HO15.out.2.2.2.2.2.2.2.1).trans HO15.out.2.2.2.2.2.1
                have hbw := below_setRow HO15.out.1 HO15.out.2.2.2.2.2.2.2.2.1 (bV (dgL sA))
                generalize WO15.setRow WO14.heap.size (bV (dgL sA)) = WZ at *
                refine hK' _ _ (hbw) ?_
                clear hK' K'
                go_simp
                refine wpAnyH_one (i := 10) (by kernel_rfl) rfl (by kernel_rfl) (fun K' hK' => ?_)
                refine wp_store_row 26 (.tmp 8) (.tmp 28) (by kernel_rfl) WO2.heap.size (bV (dgL sB)) (by kernel_rfl) (by kernel_rfl) 26 _ hf6 (sz_in (dgL_len _)) (sz_eq zL_len (dgL_len _)) (bV_one _) ?_
                have hg6 := setRow_heap _ WO2.heap.size _ (bV (dgL sB)) 26 (0, 0) hf6
                have hg5 := (setRow_other WZ WO2.heap.size WO14.heap.size (bV (dgL sB)) (Ne.symm HO15.out.2.2.2.2.2.2.2.1)).trans hf5
                have hbw2 := below_setRow hbw HO15.out.2.2.2.2.1 (bV (dgL sB))
                have HM := Lib.hid (show TwoD (dgL sA) (dgL sB) wr (.pointer (some ⟨WO14.heap.size, 0, none⟩)) (.pointer (some ⟨WO2.heap.size, 0, none⟩)) (WZ.setRow WO2.heap.size (bV (dgL sB))) from ⟨_, _, rfl, rfl, hg5, hg6, hbw2, HO15.out.2.2.2.2.2.2.2.2.1, HO15.out.2.2.2.2.1, (Ne.symm HO15.out.2.2.2.2.2.2.2.1)⟩)
                generalize WZ.setRow WO2.heap.size (bV (dgL sB)) = WY at *
                clear hg6 hg5 hf5 hf6 hbw
                refine hK' _ _ (hbw2) ?_
                clear hK' K'
                go_simp
                refine wpAnyH_done (by kernel_rfl) ?_ _
                refine NoPanic.normal ?_
                go_simp
                go_wp2_with fail
                go_meet
                case rel => exact HM.out
              · go_simp
                rw [zL_val]
                have HO16 := Lib.hid (show Below wr.heap.size wr _ ∧ wr.heap.size ≤ WO1.heap.size ∧ _ ∧ WO1.heap.size ≠ WO2.heap.size ∧ wr.heap.size ≤ WO2.heap.size ∧ _ ∧ WO1.heap.size ≠ WO13.heap.size ∧ WO2.heap.size ≠ WO13.heap.size ∧ wr.heap.size ≤ WO13.heap.size ∧ _ from ⟨HO13.out.1.alloc HO13.out.1.size (.cells (bV zL) 26), HO13.out.2.1, blk_alloc HO13.out.2.2.1 (.cells (bV zL) 26), HO13.out.2.2.2.1, HO13.out.2.2.2.2.1, blk_alloc HO13.out.2.2.2.2.2 (.cells (bV zL) 26), other_block HO13.out.2.2.1 (Nat.le_refl _), other_block HO13.out.2.2.2.2.2 (Nat.le_refl _), HO13.out.1.size, blk_new WO13 (.cells (bV zL) 26)⟩)
                generalize WO13.alloc (.cells (bV zL) 26) = WO16 at *
                refine hK' _ _ (HO16.out.1) ?_
                clear hK' K'
                go_simp
                refine wpAnyH_one (i := 6) (by kernel_rfl) rfl (by kernel_rfl) (fun K' hK' => ?_)
                go_simp
                refine (tree_any 1 (by omega) (some ⟨WO1.heap.size, 0, none⟩) (WO1.heap.size) 0 1 [F] _ (oneR hF (HO16.out.2.2.1)) (by omega) (HR.out.2.2.2.below (HO16.out.1))).mono ?_
                rintro e WO17 ⟨rfl, hb17⟩
                rw [bV_dg, ← HS.out.2.1]
                have HO17 := Lib.hid (show Below wr.heap.size wr WO17 ∧ _ ∧ _ ∧ _ ∧ _ ∧ _ ∧ _ ∧ _ ∧ _ ∧ _ from ⟨below_after HO16.out.1 hb17 HO16.out.1.size, HO16.out.2.1, blk_below HO16.out.2.2.1 hb17 (blk_lt HO16.out.2.2.1), HO16.out.2.2.2.1, HO16.out.2.2.2.2.1, blk_below HO16.out.2.2.2.2.2.1 hb17 (blk_lt HO16.out.2.2.2.2.2.1), HO16.out.2.2.2.2.2.2.1, HO16.out.2.2.2.2.2.2.2.1, HO16.out.2.2.2.2.2.2.2.2.1, blk_below HO16.out.2.2.2.2.2.2.2.2.2 hb17 (blk_lt HO16.out.2.2.2.2.2.2.2.2.2)⟩)
                clear hb17
                refine hK' _ _ (HO17.out.1) ?_
                clear hK' K'
                go_simp
                refine wpAnyH_one (i := 9) (by kernel_rfl) rfl (by kernel_rfl) (fun K' hK' => ?_)
                refine wp_store_row 26 (.tmp 7) (.tmp 25) (by kernel_rfl) WO13.heap.size (bV (dgL sA)) (by kernel_rfl) (by kernel_rfl) 26 _ HO17.out.2.2.2.2.2.2.2.2.2 (sz_in (dgL_len _)) (sz_eq zL_len (dgL_len _)) (bV_one _) ?_
                have hf5 := setRow_heap _ WO13.heap.size _ (bV (dgL sA)) 26 (0, 0) HO17.out.2.2.2.2.2.2.2.2.2
                have hf6 := (setRow_other WO17 WO13.heap.size WO2.heap.size (bV (dgL sA)) HO17.out.2.2.2.2.2.2.2.1).trans HO17.out.2.2.2.2.2.1
                have hbw := below_setRow HO17.out.1 HO17.out.2.2.2.2.2.2.2.2.1 (bV (dgL sA))
                generalize WO17.setRow WO13.heap.size (bV (dgL sA)) = WZ at *
                refine hK' _ _ (hbw) ?_
                clear hK' K'
                go_simp
                refine wpAnyH_one (i := 10) (by kernel_rfl) rfl (by kernel_rfl) (fun K' hK' => ?_)
                refine wp_store_row 26 (.tmp 8) (.tmp 28) (by kernel_rfl) WO2.heap.size (bV (dgL sB)) (by kernel_rfl) (by kernel_rfl) 26 _ hf6 (sz_in (dgL_len _)) (sz_eq zL_len (dgL_len _)) (bV_one _) ?_
                have hg6 := setRow_heap _ WO2.heap.size _ (bV (dgL sB)) 26 (0, 0) hf6
                have hg5 := (setRow_other WZ WO2.heap.size WO13.heap.size (bV (dgL sB)) (Ne.symm HO17.out.2.2.2.2.2.2.2.1)).trans hf5
                have hbw2 := below_setRow hbw HO17.out.2.2.2.2.1 (bV (dgL sB))
                have HM := Lib.hid (show TwoD (dgL sA) (dgL sB) wr (.pointer (some ⟨WO13.heap.size, 0, none⟩)) (.pointer (some ⟨WO2.heap.size, 0, none⟩)) (WZ.setRow WO2.heap.size (bV (dgL sB))) from ⟨_, _, rfl, rfl, hg5, hg6, hbw2, HO17.out.2.2.2.2.2.2.2.2.1, HO17.out.2.2.2.2.1, (Ne.symm HO17.out.2.2.2.2.2.2.2.1)⟩)
                generalize WZ.setRow WO2.heap.size (bV (dgL sB)) = WY at *
                clear hg6 hg5 hf5 hf6 hbw
                refine hK' _ _ (hbw2) ?_
                clear hK' K'
                go_simp
                refine wpAnyH_done (by kernel_rfl) ?_ _
                refine NoPanic.normal ?_
                go_simp
                go_wp2_with fail
                go_meet
                case rel => exact HM.out
          · go_simp
            rw [zL_val]
            have HO18 := Lib.hid (show Below wr.heap.size wr _ ∧ wr.heap.size ≤ WO1.heap.size ∧ _ from ⟨HO1.out.alloc HO1.out.size (.cells (bV zL) 26), HO1.out.size, blk_new WO1 (.cells (bV zL) 26)⟩)
            generalize WO1.alloc (.cells (bV zL) 26) = WO18 at *
            refine hK' _ _ (HO18.out.1) ?_
            clear hK' K'
            go_simp
            refine wpAnyH_two (i := 5) (j := 8) (by kernel_rfl) rfl rfl (by kernel_rfl) (by kernel_rfl) (fun K' hK' => ?_) (fun K' hK' => ?_)
            · refine wp_build_D (.tmp 26) rfl F hF (by kernel_rfl) ?_
              have HO19 := Lib.hid (show Below wr.heap.size wr _ ∧ wr.heap.size ≤ WO1.heap.size ∧ _ ∧ WO1.heap.size ≠ WO18.heap.size ∧ wr.heap.size ≤ WO18.heap.size ∧ _ from ⟨HO18.out.1.alloc HO18.out.1.size (.cells (bV F) 26), HO18.out.2.1, blk_alloc HO18.out.2.2 (.cells (bV F) 26), other_block HO18.out.2.2 (Nat.le_refl _), HO18.out.1.size, blk_new WO18 (.cells (bV F) 26)⟩)
              generalize WO18.alloc (.cells (bV F) 26) = WO19 at *
              refine hK' _ _ (HO19.out.1) ?_
              clear hK' K'
              go_simp
              refine wpAnyH_two (i := 6) (j := 8) (by kernel_rfl) rfl rfl (by kernel_rfl) (by kernel_rfl) (fun K' hK' => ?_) (fun K' hK' => ?_)
              · go_simp
                refine (tree_any 1 (by omega) (some ⟨WO18.heap.size, 0, none⟩) (WO18.heap.size) 0 1 [F] _ (oneR hF (HO19.out.2.2.2.2.2)) (by omega) (HR.out.2.2.2.below (HO19.out.1))).mono ?_
                rintro e WO20 ⟨rfl, hb20⟩
                rw [bV_dg, ← HS.out.2.1]
                have HO20 := Lib.hid (show Below wr.heap.size wr WO20 ∧ _ ∧ _ ∧ _ ∧ _ ∧ _ from ⟨below_after HO19.out.1 hb20 HO19.out.1.size, HO19.out.2.1, blk_below HO19.out.2.2.1 hb20 (blk_lt HO19.out.2.2.1), HO19.out.2.2.2.1, HO19.out.2.2.2.2.1, blk_below HO19.out.2.2.2.2.2 hb20 (blk_lt HO19.out.2.2.2.2.2)⟩)
                clear hb20
                refine hK' _ _ (HO20.out.1) ?_
                clear hK' K'
                go_simp
                refine wpAnyH_one (i := 8) (by kernel_rfl) rfl (by kernel_rfl) (fun K' hK' => ?_)
                go_simp
                rw [zL_val]
                have HO21 := Lib.hid (show Below wr.heap.size wr _ ∧ wr.heap.size ≤ WO1.heap.size ∧ _ ∧ WO1.heap.size ≠ WO18.heap.size ∧ wr.heap.size ≤ WO18.heap.size ∧ _ ∧ WO1.heap.size ≠ WO20.heap.size ∧ WO18.heap.size ≠ WO20.heap.size ∧ wr.heap.size ≤ WO20.heap.size ∧ _ from ⟨HO20.out.1.alloc HO20.out.1.size (.cells (bV zL) 26), HO20.out.2.1, blk_alloc HO20.out.2.2.1 (.cells (bV zL) 26), HO20.out.2.2.2.1, HO20.out.2.2.2.2.1, blk_alloc HO20.out.2.2.2.2.2 (.cells (bV zL) 26), other_block HO20.out.2.2.1 (Nat.le_refl _), other_block HO20.out.2.2.2.2.2 (Nat.le_refl _), HO20.out.1.size, blk_new WO20 (.cells (bV zL) 26)⟩)
                generalize WO20.alloc (.cells (bV zL) 26) = WO21 at *
                refine hK' _ _ (HO21.out.1) ?_
                clear hK' K'
                go_simp
                refine wpAnyH_one (i := 9) (by kernel_rfl) rfl (by kernel_rfl) (fun K' hK' => ?_)
                refine wp_store_row 26 (.tmp 7) (.tmp 25) (by kernel_rfl) WO1.heap.size (bV (dgL sA)) (by kernel_rfl) (by kernel_rfl) 26 _ HO21.out.2.2.1 (sz_in (dgL_len _)) (sz_eq zL_len (dgL_len _)) (bV_one _) ?_
                have hf5 := setRow_heap _ WO1.heap.size _ (bV (dgL sA)) 26 (0, 0) HO21.out.2.2.1
                have hf6 := (setRow_other WO21 WO1.heap.size WO20.heap.size (bV (dgL sA)) (Ne.symm HO21.out.2.2.2.2.2.2.1)).trans HO21.out.2.2.2.2.2.2.2.2.2
                have hbw := below_setRow HO21.out.1 HO21.out.2.1 (bV (dgL sA))
                generalize WO21.setRow WO1.heap.size (bV (dgL sA)) = WZ at *
                refine hK' _ _ (hbw) ?_
                clear hK' K'
                go_simp
                refine wpAnyH_one (i := 10) (by kernel_rfl) rfl (by kernel_rfl) (fun K' hK' => ?_)
                refine wp_store_row 26 (.tmp 8) (.tmp 28) (by kernel_rfl) WO20.heap.size (bV (dgL sB)) (by kernel_rfl) (by kernel_rfl) 26 _ hf6 (sz_in (dgL_len _)) (sz_eq zL_len (dgL_len _)) (bV_one _) ?_
                have hg6 := setRow_heap _ WO20.heap.size _ (bV (dgL sB)) 26 (0, 0) hf6
                have hg5 := (setRow_other WZ WO20.heap.size WO1.heap.size (bV (dgL sB)) HO21.out.2.2.2.2.2.2.1).trans hf5
                have hbw2 := below_setRow hbw HO21.out.2.2.2.2.2.2.2.2.1 (bV (dgL sB))
                have HM := Lib.hid (show TwoD (dgL sA) (dgL sB) wr (.pointer (some ⟨WO1.heap.size, 0, none⟩)) (.pointer (some ⟨WO20.heap.size, 0, none⟩)) (WZ.setRow WO20.heap.size (bV (dgL sB))) from ⟨_, _, rfl, rfl, hg5, hg6, hbw2, HO21.out.2.1, HO21.out.2.2.2.2.2.2.2.2.1, HO21.out.2.2.2.2.2.2.1⟩)
                generalize WZ.setRow WO20.heap.size (bV (dgL sB)) = WY at *
                clear hg6 hg5 hf5 hf6 hbw
                refine hK' _ _ (hbw2) ?_
                clear hK' K'
                go_simp
                refine wpAnyH_done (by kernel_rfl) ?_ _
                refine NoPanic.normal ?_
                go_simp
                go_wp2_with fail
                go_meet
                case rel => exact HM.out
              · go_simp
                rw [zL_val]
                have HO22 := Lib.hid (show Below wr.heap.size wr _ ∧ wr.heap.size ≤ WO1.heap.size ∧ _ ∧ WO1.heap.size ≠ WO18.heap.size ∧ wr.heap.size ≤ WO18.heap.size ∧ _ ∧ WO1.heap.size ≠ WO19.heap.size ∧ WO18.heap.size ≠ WO19.heap.size ∧ wr.heap.size ≤ WO19.heap.size ∧ _ from ⟨HO19.out.1.alloc HO19.out.1.size (.cells (bV zL) 26), HO19.out.2.1, blk_alloc HO19.out.2.2.1 (.cells (bV zL) 26), HO19.out.2.2.2.1, HO19.out.2.2.2.2.1, blk_alloc HO19.out.2.2.2.2.2 (.cells (bV zL) 26), other_block HO19.out.2.2.1 (Nat.le_refl _), other_block HO19.out.2.2.2.2.2 (Nat.le_refl _), HO19.out.1.size, blk_new WO19 (.cells (bV zL) 26)⟩)
                generalize WO19.alloc (.cells (bV zL) 26) = WO22 at *
                refine hK' _ _ (HO22.out.1) ?_
                clear hK' K'
                go_simp
                refine wpAnyH_one (i := 6) (by kernel_rfl) rfl (by kernel_rfl) (fun K' hK' => ?_)
                go_simp
                refine (tree_any 1 (by omega) (some ⟨WO18.heap.size, 0, none⟩) (WO18.heap.size) 0 1 [F] _ (oneR hF (HO22.out.2.2.2.2.2.1)) (by omega) (HR.out.2.2.2.below (HO22.out.1))).mono ?_
                rintro e WO23 ⟨rfl, hb23⟩
                rw [bV_dg, ← HS.out.2.1]
                have HO23 := Lib.hid (show Below wr.heap.size wr WO23 ∧ _ ∧ _ ∧ _ ∧ _ ∧ _ ∧ _ ∧ _ ∧ _ ∧ _ from ⟨below_after HO22.out.1 hb23 HO22.out.1.size, HO22.out.2.1, blk_below HO22.out.2.2.1 hb23 (blk_lt HO22.out.2.2.1), HO22.out.2.2.2.1, HO22.out.2.2.2.2.1, blk_below HO22.out.2.2.2.2.2.1 hb23 (blk_lt HO22.out.2.2.2.2.2.1), HO22.out.2.2.2.2.2.2.1, HO22.out.2.2.2.2.2.2.2.1, HO22.out.2.2.2.2.2.2.2.2.1, blk_below HO22.out.2.2.2.2.2.2.2.2.2 hb23 (blk_lt HO22.out.2.2.2.2.2.2.2.2.2)⟩)
                clear hb23
                refine hK' _ _ (HO23.out.1) ?_
                clear hK' K'
                go_simp
                refine wpAnyH_one (i := 9) (by kernel_rfl) rfl (by kernel_rfl) (fun K' hK' => ?_)
                refine wp_store_row 26 (.tmp 7) (.tmp 25) (by kernel_rfl) WO1.heap.size (bV (dgL sA)) (by kernel_rfl) (by kernel_rfl) 26 _ HO23.out.2.2.1 (sz_in (dgL_len _)) (sz_eq zL_len (dgL_len _)) (bV_one _) ?_
                have hf5 := setRow_heap _ WO1.heap.size _ (bV (dgL sA)) 26 (0, 0) HO23.out.2.2.1
                have hf6 := (setRow_other WO23 WO1.heap.size WO19.heap.size (bV (dgL sA)) (Ne.symm HO23.out.2.2.2.2.2.2.1)).trans HO23.out.2.2.2.2.2.2.2.2.2
                have hbw := below_setRow HO23.out.1 HO23.out.2.1 (bV (dgL sA))
                generalize WO23.setRow WO1.heap.size (bV (dgL sA)) = WZ at *
                refine hK' _ _ (hbw) ?_
                clear hK' K'
                go_simp
                refine wpAnyH_one (i := 10) (by kernel_rfl) rfl (by kernel_rfl) (fun K' hK' => ?_)
                refine wp_store_row 26 (.tmp 8) (.tmp 28) (by kernel_rfl) WO19.heap.size (bV (dgL sB)) (by kernel_rfl) (by kernel_rfl) 26 _ hf6 (sz_in (dgL_len _)) (sz_eq zL_len (dgL_len _)) (bV_one _) ?_
                have hg6 := setRow_heap _ WO19.heap.size _ (bV (dgL sB)) 26 (0, 0) hf6
                have hg5 := (setRow_other WZ WO19.heap.size WO1.heap.size (bV (dgL sB)) HO23.out.2.2.2.2.2.2.1).trans hf5
                have hbw2 := below_setRow hbw HO23.out.2.2.2.2.2.2.2.2.1 (bV (dgL sB))
                have HM := Lib.hid (show TwoD (dgL sA) (dgL sB) wr (.pointer (some ⟨WO1.heap.size, 0, none⟩)) (.pointer (some ⟨WO19.heap.size, 0, none⟩)) (WZ.setRow WO19.heap.size (bV (dgL sB))) from ⟨_, _, rfl, rfl, hg5, hg6, hbw2, HO23.out.2.1, HO23.out.2.2.2.2.2.2.2.2.1, HO23.out.2.2.2.2.2.2.1⟩)
                generalize WZ.setRow WO19.heap.size (bV (dgL sB)) = WY at *
                clear hg6 hg5 hf5 hf6 hbw
                refine hK' _ _ (hbw2) ?_
                clear hK' K'
                go_simp
                refine wpAnyH_done (by kernel_rfl) ?_ _
                refine NoPanic.normal ?_
                go_simp
                go_wp2_with fail
                go_meet
                case rel => exact HM.out
            · go_simp
              rw [zL_val]
              have HO24 := Lib.hid (show Below wr.heap.size wr _ ∧ wr.heap.size ≤ WO1.heap.size ∧ _ ∧ WO1.heap.size ≠ WO18.heap.size ∧ wr.heap.size ≤ WO18.heap.size ∧ _ from ⟨HO18.out.1.alloc HO18.out.1.size (.cells (bV zL) 26), HO18.out.2.1, blk_alloc HO18.out.2.2 (.cells (bV zL) 26), other_block HO18.out.2.2 (Nat.le_refl _), HO18.out.1.size, blk_new WO18 (.cells (bV zL) 26)⟩)
              generalize WO18.alloc (.cells (bV zL) 26) = WO24 at *
              refine hK' _ _ (HO24.out.1) ?_
              clear hK' K'
              go_simp
              refine wpAnyH_one (i := 5) (by kernel_rfl) rfl (by kernel_rfl) (fun K' hK' => ?_)
              refine wp_build_D (.tmp 26) rfl F hF (by kernel_rfl) ?_
              have HO25 := Lib.hid (show Below wr.heap.size wr _ ∧ wr.heap.size ≤ WO1.heap.size ∧ _ ∧ WO1.heap.size ≠ WO18.heap.size ∧ wr.heap.size ≤ WO18.heap.size ∧ _ ∧ WO1.heap.size ≠ WO24.heap.size ∧ WO18.heap.size ≠ WO24.heap.size ∧ wr.heap.size ≤ WO24.heap.size ∧ _ from ⟨HO24.out.1.alloc HO24.out.1.size (.cells (bV F) 26), HO24.out.2.1, blk_alloc HO24.out.2.2.1 (.cells (bV F) 26), HO24.out.2.2.2.1, HO24.out.2.2.2.2.1, blk_alloc HO24.out.2.2.2.2.2 (.cells (bV F) 26), other_block HO24.out.2.2.1 (Nat.le_refl _), other_block HO24.out.2.2.2.2.2 (Nat.le_refl _), HO24.out.1.size, blk_new WO24 (.cells (bV F) 26)⟩)
              generalize WO24.alloc (.cells (bV F) 26) = WO25 at *
              refine hK' _ _ (HO25.out.1) ?_
              clear hK' K'
              go_simp
              refine wpAnyH_one (i := 6) (by kernel_rfl) rfl (by kernel_rfl) (fun K' hK' => ?_)
              go_simp
              refine (tree_any 1 (by omega) (some ⟨WO24.heap.size, 0, none⟩) (WO24.heap.size) 0 1 [F] _ (oneR hF (HO25.out.2.2.2.2.2.2.2.2.2)) (by omega) (HR.out.2.2.2.below (HO25.out.1))).mono ?_
              rintro e WO26 ⟨rfl, hb26⟩
              rw [bV_dg, ← HS.out.2.1]
              have HO26 := Lib.hid (show Below wr.heap.size wr WO26 ∧ _ ∧ _ ∧ _ ∧ _ ∧ _ ∧ _ ∧ _ ∧ _ ∧ _ from ⟨below_after HO25.out.1 hb26 HO25.out.1.size, HO25.out.2.1, blk_below HO25.out.2.2.1 hb26 (blk_lt HO25.out.2.2.1), HO25.out.2.2.2.1, HO25.out.2.2.2.2.1, blk_below HO25.out.2.2.2.2.2.1 hb26 (blk_lt HO25.out.2.2.2.2.2.1), HO25.out.2.2.2.2.2.2.1, HO25.out.2.2.2.2.2.2.2.1, HO25.out.2.2.2.2.2.2.2.2.1, blk_below HO25.out.2.2.2.2.2.2.2.2.2 hb26 (blk_lt HO25.out.2.2.2.2.2.2.2.2.2)⟩)
              clear hb26
              refine hK' _ _ (HO26.out.1) ?_
              clear hK' K'
              go_simp
              refine wpAnyH_one (i := 9) (by kernel_rfl) rfl (by kernel_rfl) (fun K' hK' => ?_)
              refine wp_store_row 26 (.tmp 7) (.tmp 25) (by kernel_rfl) WO1.heap.size (bV (dgL sA)) (by kernel_rfl) (by kernel_rfl) 26 _ HO26.out.2.2.1 (sz_in (dgL_len _)) (sz_eq zL_len (dgL_len _)) (bV_one _) ?_
              have hf5 := setRow_heap _ WO1.heap.size _ (bV (dgL sA)) 26 (0, 0) HO26.out.2.2.1
              have hf6 := (setRow_other WO26 WO1.heap.size WO18.heap.size (bV (dgL sA)) (Ne.symm HO26.out.2.2.2.1)).trans HO26.out.2.2.2.2.2.1
              have hbw := below_setRow HO26.out.1 HO26.out.2.1 (bV (dgL sA))
              generalize WO26.setRow WO1.heap.size (bV (dgL sA)) = WZ at *
              refine hK' _ _ (hbw) ?_
              clear hK' K'
              go_simp
              refine wpAnyH_one (i := 10) (by kernel_rfl) rfl (by kernel_rfl) (fun K' hK' => ?_)
              refine wp_store_row 26 (.tmp 8) (.tmp 28) (by kernel_rfl) WO18.heap.size (bV (dgL sB)) (by kernel_rfl) (by kernel_rfl) 26 _ hf6 (sz_in (dgL_len _)) (sz_eq zL_len (dgL_len _)) (bV_one _) ?_
              have hg6 := setRow_heap _ WO18.heap.size _ (bV (dgL sB)) 26 (0, 0) hf6
              have hg5 := (setRow_other WZ WO18.heap.size WO1.heap.size (bV (dgL sB)) HO26.out.2.2.2.1).trans hf5
              have hbw2 := below_setRow hbw HO26.out.2.2.2.2.1 (bV (dgL sB))
              have HM := Lib.hid (show TwoD (dgL sA) (dgL sB) wr (.pointer (some ⟨WO1.heap.size, 0, none⟩)) (.pointer (some ⟨WO18.heap.size, 0, none⟩)) (WZ.setRow WO18.heap.size (bV (dgL sB))) from ⟨_, _, rfl, rfl, hg5, hg6, hbw2, HO26.out.2.1, HO26.out.2.2.2.2.1, HO26.out.2.2.2.1⟩)
              generalize WZ.setRow WO18.heap.size (bV (dgL sB)) = WY at *
              clear hg6 hg5 hf5 hf6 hbw
              refine hK' _ _ (hbw2) ?_
              clear hK' K'
              go_simp
              refine wpAnyH_done (by kernel_rfl) ?_ _
              refine NoPanic.normal ?_
              go_simp
              go_wp2_with fail
              go_meet
              case rel => exact HM.out
          · go_simp
            rw [zL_val]
            have HO27 := Lib.hid (show Below wr.heap.size wr _ ∧ wr.heap.size ≤ WO1.heap.size ∧ _ from ⟨HO1.out.alloc HO1.out.size (.cells (bV zL) 26), HO1.out.size, blk_new WO1 (.cells (bV zL) 26)⟩)
            generalize WO1.alloc (.cells (bV zL) 26) = WO27 at *
            refine hK' _ _ (HO27.out.1) ?_
            clear hK' K'
            go_simp
            refine wpAnyH_two (i := 5) (j := 7) (by kernel_rfl) rfl rfl (by kernel_rfl) (by kernel_rfl) (fun K' hK' => ?_) (fun K' hK' => ?_)
            · refine wp_build_D (.tmp 26) rfl F hF (by kernel_rfl) ?_
              have HO28 := Lib.hid (show Below wr.heap.size wr _ ∧ wr.heap.size ≤ WO1.heap.size ∧ _ ∧ WO1.heap.size ≠ WO27.heap.size ∧ wr.heap.size ≤ WO27.heap.size ∧ _ from ⟨HO27.out.1.alloc HO27.out.1.size (.cells (bV F) 26), HO27.out.2.1, blk_alloc HO27.out.2.2 (.cells (bV F) 26), other_block HO27.out.2.2 (Nat.le_refl _), HO27.out.1.size, blk_new WO27 (.cells (bV F) 26)⟩)
              generalize WO27.alloc (.cells (bV F) 26) = WO28 at *
              refine hK' _ _ (HO28.out.1) ?_
              clear hK' K'
              go_simp
              refine wpAnyH_two (i := 6) (j := 7) (by kernel_rfl) rfl rfl (by kernel_rfl) (by kernel_rfl) (fun K' hK' => ?_) (fun K' hK' => ?_)
              · go_simp
                refine (tree_any 1 (by omega) (some ⟨WO27.heap.size, 0, none⟩) (WO27.heap.size) 0 1 [F] _ (oneR hF (HO28.out.2.2.2.2.2)) (by omega) (HR.out.2.2.2.below (HO28.out.1))).mono ?_
                rintro e WO29 ⟨rfl, hb29⟩
                rw [bV_dg, ← HS.out.2.1]
                have HO29 := Lib.hid (show Below wr.heap.size wr WO29 ∧ _ ∧ _ ∧ _ ∧ _ ∧ _ from ⟨below_after HO28.out.1 hb29 HO28.out.1.size, HO28.out.2.1, blk_below HO28.out.2.2.1 hb29 (blk_lt HO28.out.2.2.1), HO28.out.2.2.2.1, HO28.out.2.2.2.2.1, blk_below HO28.out.2.2.2.2.2 hb29 (blk_lt HO28.out.2.2.2.2.2)⟩)
                clear hb29
                refine hK' _ _ (HO29.out.1) ?_
                clear hK' K'
                go_simp
                refine wpAnyH_one (i := 7) (by kernel_rfl) rfl (by kernel_rfl) (fun K' hK' => ?_)
                go_simp
                rw [zL_val]
                have HO30 := Lib.hid (show Below wr.heap.size wr _ ∧ wr.heap.size ≤ WO1.heap.size ∧ _ ∧ WO1.heap.size ≠ WO27.heap.size ∧ wr.heap.size ≤ WO27.heap.size ∧ _ ∧ WO1.heap.size ≠ WO29.heap.size ∧ WO27.heap.size ≠ WO29.heap.size ∧ wr.heap.size ≤ WO29.heap.size ∧ _ from ⟨HO29.out.1.alloc HO29.out.1.size (.cells (bV zL) 26), HO29.out.2.1, blk_alloc HO29.out.2.2.1 (.cells (bV zL) 26), HO29.out.2.2.2.1, HO29.out.2.2.2.2.1, blk_alloc HO29.out.2.2.2.2.2 (.cells (bV zL) 26), other_block HO29.out.2.2.1 (Nat.le_refl _), other_block HO29.out.2.2.2.2.2 (Nat.le_refl _), HO29.out.1.size, blk_new WO29 (.cells (bV zL) 26)⟩)
                generalize WO29.alloc (.cells (bV zL) 26) = WO30 at *
                refine hK' _ _ (HO30.out.1) ?_
                clear hK' K'
                go_simp
                refine wpAnyH_one (i := 9) (by kernel_rfl) rfl (by kernel_rfl) (fun K' hK' => ?_)
                refine wp_store_row 26 (.tmp 7) (.tmp 25) (by kernel_rfl) WO29.heap.size (bV (dgL sA)) (by kernel_rfl) (by kernel_rfl) 26 _ HO30.out.2.2.2.2.2.2.2.2.2 (sz_in (dgL_len _)) (sz_eq zL_len (dgL_len _)) (bV_one _) ?_
                have hf5 := setRow_heap _ WO29.heap.size _ (bV (dgL sA)) 26 (0, 0) HO30.out.2.2.2.2.2.2.2.2.2
                have hf6 := (setRow_other WO30 WO29.heap.size WO1.heap.size (bV (dgL sA)) HO30.out.2.2.2.2.2.2.1).trans HO30.out.2.2.1
                have hbw := below_setRow HO30.out.1 HO30.out.2.2.2.2.2.2.2.2.1 (bV (dgL sA))
                generalize WO30.setRow WO29.heap.size (bV (dgL sA)) = WZ at *
                refine hK' _ _ (hbw) ?_
                clear hK' K'
                go_simp
                refine wpAnyH_one (i := 10) (by kernel_rfl) rfl (by kernel_rfl) (fun K' hK' => ?_)
                refine wp_store_row 26 (.tmp 8) (.tmp 28) (by kernel_rfl) WO1.heap.size (bV (dgL sB)) (by kernel_rfl) (by kernel_rfl) 26 _ hf6 (sz_in (dgL_len _)) (sz_eq zL_len (dgL_len _)) (bV_one _) ?_
                have hg6 := setRow_heap _ WO1.heap.size _ (bV (dgL sB)) 26 (0, 0) hf6
                have hg5 := (setRow_other WZ WO1.heap.size WO29.heap.size (bV (dgL sB)) (Ne.symm HO30.out.2.2.2.2.2.2.1)).trans hf5
                have hbw2 := below_setRow hbw HO30.out.2.1 (bV (dgL sB))
                have HM := Lib.hid (show TwoD (dgL sA) (dgL sB) wr (.pointer (some ⟨WO29.heap.size, 0, none⟩)) (.pointer (some ⟨WO1.heap.size, 0, none⟩)) (WZ.setRow WO1.heap.size (bV (dgL sB))) from ⟨_, _, rfl, rfl, hg5, hg6, hbw2, HO30.out.2.2.2.2.2.2.2.2.1, HO30.out.2.1, (Ne.symm HO30.out.2.2.2.2.2.2.1)⟩)
                generalize WZ.setRow WO1.heap.size (bV (dgL sB)) = WY at *
                clear hg6 hg5 hf5 hf6 hbw
                refine hK' _ _ (hbw2) ?_
                clear hK' K'
                go_simp
                refine wpAnyH_done (by kernel_rfl) ?_ _
                refine NoPanic.normal ?_
                go_simp
                go_wp2_with fail
                go_meet
                case rel => exact HM.out
              · go_simp
                rw [zL_val]
                have HO31 := Lib.hid (show Below wr.heap.size wr _ ∧ wr.heap.size ≤ WO1.heap.size ∧ _ ∧ WO1.heap.size ≠ WO27.heap.size ∧ wr.heap.size ≤ WO27.heap.size ∧ _ ∧ WO1.heap.size ≠ WO28.heap.size ∧ WO27.heap.size ≠ WO28.heap.size ∧ wr.heap.size ≤ WO28.heap.size ∧ _ from ⟨HO28.out.1.alloc HO28.out.1.size (.cells (bV zL) 26), HO28.out.2.1, blk_alloc HO28.out.2.2.1 (.cells (bV zL) 26), HO28.out.2.2.2.1, HO28.out.2.2.2.2.1, blk_alloc HO28.out.2.2.2.2.2 (.cells (bV zL) 26), other_block HO28.out.2.2.1 (Nat.le_refl _), other_block HO28.out.2.2.2.2.2 (Nat.le_refl _), HO28.out.1.size, blk_new WO28 (.cells (bV zL) 26)⟩)
                generalize WO28.alloc (.cells (bV zL) 26) = WO31 at *
                refine hK' _ _ (HO31.out.1) ?_
                clear hK' K'
                go_simp
                refine wpAnyH_one (i := 6) (by kernel_rfl) rfl (by kernel_rfl) (fun K' hK' => ?_)
                go_simp
                refine (tree_any 1 (by omega) (some ⟨WO27.heap.size, 0, none⟩) (WO27.heap.size) 0 1 [F] _ (oneR hF (HO31.out.2.2.2.2.2.1)) (by omega) (HR.out.2.2.2.below (HO31.out.1))).mono ?_
                rintro e WO32 ⟨rfl, hb32⟩
                rw [bV_dg, ← HS.out.2.1]
                have HO32 := Lib.hid (show Below wr.heap.size wr WO32 ∧ _ ∧ _ ∧ _ ∧ _ ∧ _ ∧ _ ∧ _ ∧ _ ∧ _ from ⟨below_after HO31.out.1 hb32 HO31.out.1.size, HO31.out.2.1, blk_below HO31.out.2.2.1 hb32 (blk_lt HO31.out.2.2.1), HO31.out.2.2.2.1, HO31.out.2.2.2.2.1, blk_below HO31.out.2.2.2.2.2.1 hb32 (blk_lt HO31.out.2.2.2.2.2.1), HO31.out.2.2.2.2.2.2.1, HO31.out.2.2.2.2.2.2.2.1, HO31.out.2.2.2.2.2.2.2.2.1, blk_below HO31.out.2.2.2.2.2.2.2.2.2 hb32 (blk_lt HO31.out.2.2.2.2.2.2.2.2.2)⟩)
                clear hb32
                refine hK' _ _ (HO32.out.1) ?_
                clear hK' K'
                go_simp
                refine wpAnyH_one (i := 9) (by kernel_rfl) rfl (by kernel_rfl) (fun K' hK' => ?_)
                refine wp_store_row 26 (.tmp 7) (.tmp 25) (by kernel_rfl) WO28.heap.size (bV (dgL sA)) (by kernel_rfl) (by kernel_rfl) 26 _ HO32.out.2.2.2.2.2.2.2.2.2 (sz_in (dgL_len _)) (sz_eq zL_len (dgL_len _)) (bV_one _) ?_
                have hf5 := setRow_heap _ WO28.heap.size _ (bV (dgL sA)) 26 (0, 0) HO32.out.2.2.2.2.2.2.2.2.2
                have hf6 := (setRow_other WO32 WO28.heap.size WO1.heap.size (bV (dgL sA)) HO32.out.2.2.2.2.2.2.1).trans HO32.out.2.2.1
                have hbw := below_setRow HO32.out.1 HO32.out.2.2.2.2.2.2.2.2.1 (bV (dgL sA))
                generalize WO32.setRow WO28.heap.size (bV (dgL sA)) = WZ at *
                refine hK' _ _ (hbw) ?_
                clear hK' K'
                go_simp
                refine wpAnyH_one (i := 10) (by kernel_rfl) rfl (by kernel_rfl) (fun K' hK' => ?_)
                refine wp_store_row 26 (.tmp 8) (.tmp 28) (by kernel_rfl) WO1.heap.size (bV (dgL sB)) (by kernel_rfl) (by kernel_rfl) 26 _ hf6 (sz_in (dgL_len _)) (sz_eq zL_len (dgL_len _)) (bV_one _) ?_
                have hg6 := setRow_heap _ WO1.heap.size _ (bV (dgL sB)) 26 (0, 0) hf6
                have hg5 := (setRow_other WZ WO1.heap.size WO28.heap.size (bV (dgL sB)) (Ne.symm HO32.out.2.2.2.2.2.2.1)).trans hf5
                have hbw2 := below_setRow hbw HO32.out.2.1 (bV (dgL sB))
                have HM := Lib.hid (show TwoD (dgL sA) (dgL sB) wr (.pointer (some ⟨WO28.heap.size, 0, none⟩)) (.pointer (some ⟨WO1.heap.size, 0, none⟩)) (WZ.setRow WO1.heap.size (bV (dgL sB))) from ⟨_, _, rfl, rfl, hg5, hg6, hbw2, HO32.out.2.2.2.2.2.2.2.2.1, HO32.out.2.1, (Ne.symm HO32.out.2.2.2.2.2.2.1)⟩)
                generalize WZ.setRow WO1.heap.size (bV (dgL sB)) = WY at *
                clear hg6 hg5 hf5 hf6 hbw
                refine hK' _ _ (hbw2) ?_
                clear hK' K'
                go_simp
                refine wpAnyH_done (by kernel_rfl) ?_ _
                refine NoPanic.normal ?_
                go_simp
                go_wp2_with fail
                go_meet
                case rel => exact HM.out
            · go_simp
              rw [zL_val]
              have HO33 := Lib.hid (show Below wr.heap.size wr _ ∧ wr.heap.size ≤ WO1.heap.size ∧ _ ∧ WO1.heap.size ≠ WO27.heap.size ∧ wr.heap.size ≤ WO27.heap.size ∧ _ from ⟨HO27.out.1.alloc HO27.out.1.size (.cells (bV zL) 26), HO27.out.2.1, blk_alloc HO27.out.2.2 (.cells (bV zL) 26), other_block HO27.out.2.2 (Nat.le_refl _), HO27.out.1.size, blk_new WO27 (.cells (bV zL) 26)⟩)
              generalize WO27.alloc (.cells (bV zL) 26) = WO33 at *
              refine hK' _ _ (HO33.out.1) ?_
              clear hK' K'
              go_simp
              refine wpAnyH_one (i := 5) (by kernel_rfl) rfl (by kernel_rfl) (fun K' hK' => ?_)
              refine wp_build_D (.tmp 26) rfl F hF (by kernel_rfl) ?_
              have HO34 := Lib.hid (show Below wr.heap.size wr _ ∧ wr.heap.size ≤ WO1.heap.size ∧ _ ∧ WO1.heap.size ≠ WO27.heap.size ∧ wr.heap.size ≤ WO27.heap.size ∧ _ ∧ WO1.heap.size ≠ WO33.heap.size ∧ WO27.heap.size ≠ WO33.heap.size ∧ wr.heap.size ≤ WO33.heap.size ∧ _ from ⟨HO33.out.1.alloc HO33.out.1.size (.cells (bV F) 26), HO33.out.2.1, blk_alloc HO33.out.2.2.1 (.cells (bV F) 26), HO33.out.2.2.2.1, HO33.out.2.2.2.2.1, blk_alloc HO33.out.2.2.2.2.2 (.cells (bV F) 26), other_block HO33.out.2.2.1 (Nat.le_refl _), other_block HO33.out.2.2.2.2.2 (Nat.le_refl _), HO33.out.1.size, blk_new WO33 (.cells (bV F) 26)⟩)
              generalize WO33.alloc (.cells (bV F) 26) = WO34 at *
              refine hK' _ _ (HO34.out.1) ?_
              clear hK' K'
              go_simp
              refine wpAnyH_one (i := 6) (by kernel_rfl) rfl (by kernel_rfl) (fun K' hK' => ?_)
              go_simp
              refine (tree_any 1 (by omega) (some ⟨WO33.heap.size, 0, none⟩) (WO33.heap.size) 0 1 [F] _ (oneR hF (HO34.out.2.2.2.2.2.2.2.2.2)) (by omega) (HR.out.2.2.2.below (HO34.out.1))).mono ?_
              rintro e WO35 ⟨rfl, hb35⟩
              rw [bV_dg, ← HS.out.2.1]
              have HO35 := Lib.hid (show Below wr.heap.size wr WO35 ∧ _ ∧ _ ∧ _ ∧ _ ∧ _ ∧ _ ∧ _ ∧ _ ∧ _ from ⟨below_after HO34.out.1 hb35 HO34.out.1.size, HO34.out.2.1, blk_below HO34.out.2.2.1 hb35 (blk_lt HO34.out.2.2.1), HO34.out.2.2.2.1, HO34.out.2.2.2.2.1, blk_below HO34.out.2.2.2.2.2.1 hb35 (blk_lt HO34.out.2.2.2.2.2.1), HO34.out.2.2.2.2.2.2.1, HO34.out.2.2.2.2.2.2.2.1, HO34.out.2.2.2.2.2.2.2.2.1, blk_below HO34.out.2.2.2.2.2.2.2.2.2 hb35 (blk_lt HO34.out.2.2.2.2.2.2.2.2.2)⟩)
              clear hb35
              refine hK' _ _ (HO35.out.1) ?_
              clear hK' K'
              go_simp
              refine wpAnyH_one (i := 9) (by kernel_rfl) rfl (by kernel_rfl) (fun K' hK' => ?_)
              refine wp_store_row 26 (.tmp 7) (.tmp 25) (by kernel_rfl) WO27.heap.size (bV (dgL sA)) (by kernel_rfl) (by kernel_rfl) 26 _ HO35.out.2.2.2.2.2.1 (sz_in (dgL_len _)) (sz_eq zL_len (dgL_len _)) (bV_one _) ?_
              have hf5 := setRow_heap _ WO27.heap.size _ (bV (dgL sA)) 26 (0, 0) HO35.out.2.2.2.2.2.1
              have hf6 := (setRow_other WO35 WO27.heap.size WO1.heap.size (bV (dgL sA)) HO35.out.2.2.2.1).trans HO35.out.2.2.1
              have hbw := below_setRow HO35.out.1 HO35.out.2.2.2.2.1 (bV (dgL sA))
              generalize WO35.setRow WO27.heap.size (bV (dgL sA)) = WZ at *
              refine hK' _ _ (hbw) ?_
              clear hK' K'
              go_simp
              refine wpAnyH_one (i := 10) (by kernel_rfl) rfl (by kernel_rfl) (fun K' hK' => ?_)
              refine wp_store_row 26 (.tmp 8) (.tmp 28) (by kernel_rfl) WO1.heap.size (bV (dgL sB)) (by kernel_rfl) (by kernel_rfl) 26 _ hf6 (sz_in (dgL_len _)) (sz_eq zL_len (dgL_len _)) (bV_one _) ?_
              have hg6 := setRow_heap _ WO1.heap.size _ (bV (dgL sB)) 26 (0, 0) hf6
              have hg5 := (setRow_other WZ WO1.heap.size WO27.heap.size (bV (dgL sB)) (Ne.symm HO35.out.2.2.2.1)).trans hf5
              have hbw2 := below_setRow hbw HO35.out.2.1 (bV (dgL sB))
              have HM := Lib.hid (show TwoD (dgL sA) (dgL sB) wr (.pointer (some ⟨WO27.heap.size, 0, none⟩)) (.pointer (some ⟨WO1.heap.size, 0, none⟩)) (WZ.setRow WO1.heap.size (bV (dgL sB))) from ⟨_, _, rfl, rfl, hg5, hg6, hbw2, HO35.out.2.2.2.2.1, HO35.out.2.1, (Ne.symm HO35.out.2.2.2.1)⟩)
              generalize WZ.setRow WO1.heap.size (bV (dgL sB)) = WY at *
              clear hg6 hg5 hf5 hf6 hbw
              refine hK' _ _ (hbw2) ?_
              clear hK' K'
              go_simp
              refine wpAnyH_done (by kernel_rfl) ?_ _
              refine NoPanic.normal ?_
              go_simp
              go_wp2_with fail
              go_meet
              case rel => exact HM.out
        · refine wp_build_D (.tmp 26) rfl F hF (by kernel_rfl) ?_
          rw [show wr.drew.alloc (.cells (bV F) 26) = (wr.alloc (.cells (bV F) 26)).drew from rfl]
          have HO36 := Lib.hid (show Below wr.heap.size wr _ ∧ wr.heap.size ≤ wr.heap.size ∧ _ from ⟨((Below.refl wr.heap.size wr).alloc (Nat.le_refl _) (.cells (bV F) 26)).drew, Nat.le_refl _, blk_drew (blk_new wr (.cells (bV F) 26))⟩)
          generalize (wr.alloc (.cells (bV F) 26)).drew = WO36 at *
          refine hK' _ _ (HO36.out.1) ?_
          clear hK' K'
          go_simp
          refine wpAnyH_three (i := 3) (j := 7) (k := 8) (by kernel_rfl) rfl rfl rfl (by kernel_rfl) (by kernel_rfl) (by kernel_rfl) (fun K' hK' => ?_) (fun K' hK' => ?_) (fun K' hK' => ?_)
          · go_simp
            refine (tree_any k (by omega) (some ⟨lb, 0, none⟩) lb 0 lcap (L.take k) _ ((HR.out.2.1.take hkm hk0).below (HO36.out.1) (Nat.le_refl _)) (by omega) (HR.out.2.2.2.below (HO36.out.1))).mono ?_
            rintro e WO37 ⟨rfl, hb37⟩
            rw [bV_dg, ← HS.out.1]
            have HO37 := Lib.hid (show Below wr.heap.size wr WO37 ∧ _ ∧ _ from ⟨below_after HO36.out.1 hb37 HO36.out.1.size, HO36.out.2.1, blk_below HO36.out.2.2 hb37 (blk_lt HO36.out.2.2)⟩)
            clear hb37
            refine hK' _ _ (HO37.out.1) ?_
            clear hK' K'
            go_simp
            refine wpAnyH_three (i := 6) (j := 7) (k := 8) (by kernel_rfl) rfl rfl rfl (by kernel_rfl) (by kernel_rfl) (by kernel_rfl) (fun K' hK' => ?_) (fun K' hK' => ?_) (fun K' hK' => ?_)
            · go_simp
              refine (tree_any 1 (by omega) (some ⟨wr.heap.size, 0, none⟩) (wr.heap.size) 0 1 [F] _ (oneR hF (HO37.out.2.2)) (by omega) (HR.out.2.2.2.below (HO37.out.1))).mono ?_
              rintro e WO38 ⟨rfl, hb38⟩
              rw [bV_dg, ← HS.out.2.1]
              have HO38 := Lib.hid (show Below wr.heap.size wr WO38 ∧ _ ∧ _ from ⟨below_after HO37.out.1 hb38 HO37.out.1.size, HO37.out.2.1, blk_below HO37.out.2.2 hb38 (blk_lt HO37.out.2.2)⟩)
              clear hb38
              refine hK' _ _ (HO38.out.1) ?_
              clear hK' K'
              go_simp
              refine wpAnyH_two (i := 7) (j := 8) (by kernel_rfl) rfl rfl (by kernel_rfl) (by kernel_rfl) (fun K' hK' => ?_) (fun K' hK' => ?_)
              · go_simp
                rw [zL_val]
                have HO39 := Lib.hid (show Below wr.heap.size wr _ ∧ wr.heap.size ≤ wr.heap.size ∧ _ ∧ wr.heap.size ≠ WO38.heap.size ∧ wr.heap.size ≤ WO38.heap.size ∧ _ from ⟨HO38.out.1.alloc HO38.out.1.size (.cells (bV zL) 26), HO38.out.2.1, blk_alloc HO38.out.2.2 (.cells (bV zL) 26), other_block HO38.out.2.2 (Nat.le_refl _), HO38.out.1.size, blk_new WO38 (.cells (bV zL) 26)⟩)
                generalize WO38.alloc (.cells (bV zL) 26) = WO39 at *
                refine hK' _ _ (HO39.out.1) ?_
                clear hK' K'
                go_simp
                refine wpAnyH_one (i := 8) (by kernel_rfl) rfl (by kernel_rfl) (fun K' hK' => ?_)
                go_simp
                rw [zL_val]
                have HO40 := Lib.hid (show Below wr.heap.size wr _ ∧ wr.heap.size ≤ wr.heap.size ∧ _ ∧ wr.heap.size ≠ WO38.heap.size ∧ wr.heap.size ≤ WO38.heap.size ∧ _ ∧ wr.heap.size ≠ WO39.heap.size ∧ WO38.heap.size ≠ WO39.heap.size ∧ wr.heap.size ≤ WO39.heap.size ∧ _ from ⟨HO39.out.1.alloc HO39.out.1.size (.cells (bV zL) 26), HO39.out.2.1, blk_alloc HO39.out.2.2.1 (.cells (bV zL) 26), HO39.out.2.2.2.1, HO39.out.2.2.2.2.1, blk_alloc HO39.out.2.2.2.2.2 (.cells (bV zL) 26), other_block HO39.out.2.2.1 (Nat.le_refl _), other_block HO39.out.2.2.2.2.2 (Nat.le_refl _), HO39.out.1.size, blk_new WO39 (.cells (bV zL) 26)⟩)
                generalize WO39.alloc (.cells (bV zL) 26) = WO40 at *
                refine hK' _ _ (HO40.out.1) ?_
                clear hK' K'
                go_simp
                refine wpAnyH_one (i := 9) (by kernel_rfl) rfl (by kernel_rfl) (fun K' hK' => ?_)
                refine wp_store_row 26 (.tmp 7) (.tmp 25) (by kernel_rfl) WO38.heap.size (bV (dgL sA)) (by kernel_rfl) (by kernel_rfl) 26 _ HO40.out.2.2.2.2.2.1 (sz_in (dgL_len _)) (sz_eq zL_len (dgL_len _)) (bV_one _) ?_
                have hf5 := setRow_heap _ WO38.heap.size _ (bV (dgL sA)) 26 (0, 0) HO40.out.2.2.2.2.2.1
                have hf6 := (setRow_other WO40 WO38.heap.size WO39.heap.size (bV (dgL sA)) (Ne.symm HO40.out.2.2.2.2.2.2.2.1)).trans HO40.out.2.2.2.2.2.2.2.2.2
                have hbw := below_setRow HO40.out.1 HO40.out.2.2.2.2.1 (bV (dgL sA))
                generalize WO40.setRow WO38.heap.size (bV (dgL sA)) = WZ at *
                refine hK' _ _ (hbw) ?_
                clear hK' K'
                go_simp
                refine wpAnyH_one (i := 10) (by kernel_rfl) rfl (by kernel_rfl) (fun K' hK' => ?_)
                refine wp_store_row 26 (.tmp 8) (.tmp 28) (by kernel_rfl) WO39.heap.size (bV (dgL sB)) (by kernel_rfl) (by kernel_rfl) 26 _ hf6 (sz_in (dgL_len _)) (sz_eq zL_len (dgL_len _)) (bV_one _) ?_
                have hg6 := setRow_heap _ WO39.heap.size _ (bV (dgL sB)) 26 (0, 0) hf6
                have hg5 := (setRow_other WZ WO39.heap.size WO38.heap.size (bV (dgL sB)) HO40.out.2.2.2.2.2.2.2.1).trans hf5
                have hbw2 := below_setRow hbw HO40.out.2.2.2.2.2.2.2.2.1 (bV (dgL sB))
                have HM := Lib.hid (show TwoD (dgL sA) (dgL sB) wr (.pointer (some ⟨WO38.heap.size, 0, none⟩)) (.pointer (some ⟨WO39.heap.size, 0, none⟩)) (WZ.setRow WO39.heap.size (bV (dgL sB))) from ⟨_, _, rfl, rfl, hg5, hg6, hbw2, HO40.out.2.2.2.2.1, HO40.out.2.2.2.2.2.2.2.2.1, HO40.out.2.2.2.2.2.2.2.1⟩)
                generalize WZ.setRow WO39.heap.size (bV (dgL sB)) = WY at *
                clear hg6 hg5 hf5 hf6 hbw
                refine hK' _ _ (hbw2) ?_
                clear hK' K'
                go_simp
                refine wpAnyH_done (by kernel_rfl) ?_ _
                refine NoPanic.normal ?_
                go_simp
                go_wp2_with fail
                go_meet
                case rel => exact HM.out
              · go_simp
                rw [zL_val]
                have HO41 := Lib.hid (show Below wr.heap.size wr _ ∧ wr.heap.size ≤ wr.heap.size ∧ _ ∧ wr.heap.size ≠ WO38.heap.size ∧ wr.heap.size ≤ WO38.heap.size ∧ _ from ⟨HO38.out.1.alloc HO38.out.1.size (.cells (bV zL) 26), HO38.out.2.1, blk_alloc HO38.out.2.2 (.cells (bV zL) 26), other_block HO38.out.2.2 (Nat.le_refl _), HO38.out.1.size, blk_new WO38 (.cells (bV zL) 26)⟩)
                generalize WO38.alloc (.cells (bV zL) 26) = WO41 at *
                refine hK' _ _ (HO41.out.1) ?_
                clear hK' K'
                go_simp
                refine wpAnyH_one (i := 7) (by kernel_rfl) rfl (by kernel_rfl) (fun K' hK' => ?_)
                go_simp
                rw [zL_val]
                have HO42 := Lib.hid (show Below wr.heap.size wr _ ∧ wr.heap.size ≤ wr.heap.size ∧ _ ∧ wr.heap.size ≠ WO38.heap.size ∧ wr.heap.size ≤ WO38.heap.size ∧ _ ∧ wr.heap.size ≠ WO41.heap.size ∧ WO38.heap.size ≠ WO41.heap.size ∧ wr.heap.size ≤ WO41.heap.size ∧ _ from ⟨HO41.out.1.alloc HO41.out.1.size (.cells (bV zL) 26), HO41.out.2.1, blk_alloc HO41.out.2.2.1 (.cells (bV zL) 26), HO41.out.2.2.2.1, HO41.out.2.2.2.2.1, blk_alloc HO41.out.2.2.2.2.2 (.cells (bV zL) 26), other_block HO41.out.2.2.1 (Nat.le_refl _), other_block HO41.out.2.2.2.2.2 (Nat.le_refl _), HO41.out.1.size, blk_new WO41 (.cells (bV zL) 26)⟩)
                generalize WO41.alloc (.cells (bV zL) 26) = WO42 at *
                refine hK' _ _ (HO42.out.1) ?_
                clear hK' K'
                go_simp
                refine wpAnyH_one (i := 9) (by kernel_rfl) rfl (by kernel_rfl) (fun K' hK' => ?_)
                refine wp_store_row 26 (.tmp 7) (.tmp 25) (by kernel_rfl) WO41.heap.size (bV (dgL sA)) (by kernel_rfl) (by kernel_rfl) 26 _ HO42.out.2.2.2.2.2.2.2.2.2 (sz_in (dgL_len _)) (sz_eq zL_len (dgL_len _)) (bV_one _) ?_
                have hf5 := setRow_heap _ WO41.heap.size _ (bV (dgL sA)) 26 (0, 0) HO42.out.2.2.2.2.2.2.2.2.2
                have hf6 := (setRow_other WO42 WO41.heap.size WO38.heap.size (bV (dgL sA)) HO42.out.2.2.2.2.2.2.2.1).trans HO42.out.2.2.2.2.2.1
                have hbw := below_setRow HO42.out.1 HO42.out.2.2.2.2.2.2.2.2.1 (bV (dgL sA))
                generalize WO42.setRow WO41.heap.size (bV (dgL sA)) = WZ at *
                refine hK' _ _ (hbw) ?_
                clear hK' K'
                go_simp
                refine wpAnyH_one (i := 10) (by kernel_rfl) rfl (by kernel_rfl) (fun K' hK' => ?_)
                refine wp_store_row 26 (.tmp 8) (.tmp 28) (by kernel_rfl) WO38.heap.size (bV (dgL sB)) (by kernel_rfl) (by kernel_rfl) 26 _ hf6 (sz_in (dgL_len _)) (sz_eq zL_len (dgL_len _)) (bV_one _) ?_
                have hg6 := setRow_heap _ WO38.heap.size _ (bV (dgL sB)) 26 (0, 0) hf6
                have hg5 := (setRow_other WZ WO38.heap.size WO41.heap.size (bV (dgL sB)) (Ne.symm HO42.out.2.2.2.2.2.2.2.1)).trans hf5
                have hbw2 := below_setRow hbw HO42.out.2.2.2.2.1 (bV (dgL sB))
                have HM := Lib.hid (show TwoD (dgL sA) (dgL sB) wr (.pointer (some ⟨WO41.heap.size, 0, none⟩)) (.pointer (some ⟨WO38.heap.size, 0, none⟩)) (WZ.setRow WO38.heap.size (bV (dgL sB))) from ⟨_, _, rfl, rfl, hg5, hg6, hbw2, HO42.out.2.2.2.2.2.2.2.2.1, HO42.out.2.2.2.2.1, (Ne.symm HO42.out.2.2.2.2.2.2.2.1)⟩)
                generalize WZ.setRow WO38.heap.size (bV (dgL sB)) = WY at *
                clear hg6 hg5 hf5 hf6 hbw
                refine hK' _ _ (hbw2) ?_
                clear hK' K'
                go_simp
                refine wpAnyH_done (by kernel_rfl) ?_ _
                refine NoPanic.normal ?_
                go_simp
                go_wp2_with fail
                go_meet
                case rel => exact HM.out
            · go_simp
              rw [zL_val]
              have HO43 := Lib.hid (show Below wr.heap.size wr _ ∧ wr.heap.size ≤ wr.heap.size ∧ _ ∧ wr.heap.size ≠ WO37.heap.size ∧ wr.heap.size ≤ WO37.heap.size ∧ _ from ⟨HO37.out.1.alloc HO37.out.1.size (.cells (bV zL) 26), HO37.out.2.1, blk_alloc HO37.out.2.2 (.cells (bV zL) 26), other_block HO37.out.2.2 (Nat.le_refl _), HO37.out.1.size, blk_new WO37 (.cells (bV zL) 26)⟩)
              generalize WO37.alloc (.cells (bV zL) 26) = WO43 at *
              refine hK' _ _ (HO43.out.1) ?_
              clear hK' K'
              go_simp
              refine wpAnyH_two (i := 6) (j := 8) (by kernel_rfl) rfl rfl (by kernel_rfl) (by kernel_rfl) (fun K' hK' => ?_) (fun K' hK' => ?_)
              · go_simp
                refine (tree_any 1 (by omega) (some ⟨wr.heap.size, 0, none⟩) (wr.heap.size) 0 1 [F] _ (oneR hF (HO43.out.2.2.1)) (by omega) (HR.out.2.2.2.below (HO43.out.1))).mono ?_
                rintro e WO44 ⟨rfl, hb44⟩
                rw [bV_dg, ← HS.out.2.1]
                have HO44 := Lib.hid (show Below wr.heap.size wr WO44 ∧ _ ∧ _ ∧ _ ∧ _ ∧ _ from ⟨below_after HO43.out.1 hb44 HO43.out.1.size, HO43.out.2.1, blk_below HO43.out.2.2.1 hb44 (blk_lt HO43.out.2.2.1), HO43.out.2.2.2.1, HO43.out.2.2.2.2.1, blk_below HO43.out.2.2.2.2.2 hb44 (blk_lt HO43.out.2.2.2.2.2)⟩)
                clear hb44
                refine hK' _ _ (HO44.out.1) ?_
                clear hK' K'
                go_simp
                refine wpAnyH_one (i := 8) (by kernel_rfl) rfl (by kernel_rfl) (fun K' hK' => ?_)
                go_simp
                rw [zL_val]
                have HO45 := Lib.hid (show Below wr.heap.size wr _ ∧ wr.heap.size ≤ wr.heap.size ∧ _ ∧ wr.heap.size ≠ WO37.heap.size ∧ wr.heap.size ≤ WO37.heap.size ∧ _ ∧ wr.heap.size ≠ WO44.heap.size ∧ WO37.heap.size ≠ WO44.heap.size ∧ wr.heap.size ≤ WO44.heap.size ∧ _ from ⟨HO44.out.1.alloc HO44.out.1.size (.cells (bV zL) 26), HO44.out.2.1, blk_alloc HO44.out.2.2.1 (.cells (bV zL) 26), HO44.out.2.2.2.1, HO44.out.2.2.2.2.1, blk_alloc HO44.out.2.2.2.2.2 (.cells (bV zL) 26), other_block HO44.out.2.2.1 (Nat.le_refl _), other_block HO44.out.2.2.2.2.2 (Nat.le_refl _), HO44.out.1.size, blk_new WO44 (.cells (bV zL) 26)⟩)
                generalize WO44.alloc (.cells (bV zL) 26) = WO45 at *
                refine hK' _ _ (HO45.out.1) ?_
                clear hK' K'
                go_simp
                refine wpAnyH_one (i := 9) (by kernel_rfl) rfl (by kernel_rfl) (fun K' hK' => ?_)
                refine wp_store_row 26 (.tmp 7) (.tmp 25) (by kernel_rfl) WO37.heap.size (bV (dgL sA)) (by kernel_rfl) (by kernel_rfl) 26 _ HO45.out.2.2.2.2.2.1 (sz_in (dgL_len _)) (sz_eq zL_len (dgL_len _)) (bV_one _) ?_
                have hf5 := setRow_heap _ WO37.heap.size _ (bV (dgL sA)) 26 (0, 0) HO45.out.2.2.2.2.2.1
                have hf6 := (setRow_other WO45 WO37.heap.size WO44.heap.size (bV (dgL sA)) (Ne.symm HO45.out.2.2.2.2.2.2.2.1)).trans HO45.out.2.2.2.2.2.2.2.2.2
                have hbw := below_setRow HO45.out.1 HO45.out.2.2.2.2.1 (bV (dgL sA))
                generalize WO45.setRow WO37.heap.size (bV (dgL sA)) = WZ at *
                refine hK' _ _ (hbw) ?_
                clear hK' K'
                go_simp
                refine wpAnyH_one (i := 10) (by kernel_rfl) rfl (by kernel_rfl) (fun K' hK' => ?_)
                refine wp_store_row 26 (.tmp 8) (.tmp 28) (by kernel_rfl) WO44.heap.size (bV (dgL sB)) (by kernel_rfl) (by kernel_rfl) 26 _ hf6 (sz_in (dgL_len _)) (sz_eq zL_len (dgL_len _)) (bV_one _) ?_
                have hg6 := setRow_heap _ WO44.heap.size _ (bV (dgL sB)) 26 (0, 0) hf6
                have hg5 := (setRow_other WZ WO44.heap.size WO37.heap.size (bV (dgL sB)) HO45.out.2.2.2.2.2.2.2.1).trans hf5
                have hbw2 := below_setRow hbw HO45.out.2.2.2.2.2.2.2.2.1 (bV (dgL sB))
                have HM := Lib.hid (show TwoD (dgL sA) (dgL sB) wr (.pointer (some ⟨WO37.heap.size, 0, none⟩)) (.pointer (some ⟨WO44.heap.size, 0, none⟩)) (WZ.setRow WO44.heap.size (bV (dgL sB))) from ⟨_, _, rfl, rfl, hg5, hg6, hbw2, HO45.out.2.2.2.2.1, HO45.out.2.2.2.2.2.2.2.2.1, HO45.out.2.2.2.2.2.2.2.1⟩)
                generalize WZ.setRow WO44.heap.size (bV (dgL sB)) = WY at *
                clear hg6 hg5 hf5 hf6 hbw
                refine hK' _ _ (hbw2) ?_
                clear hK' K'
                go_simp
                refine wpAnyH_done (by kernel_rfl) ?_ _
                refine NoPanic.normal ?_
                go_simp
                go_wp2_with fail
                go_meet
                case rel => exact HM.out
              · go_simp
                rw [zL_val]
                have HO46 := Lib.hid (show Below wr.heap.size wr _ ∧ wr.heap.size ≤ wr.heap.size ∧ _ ∧ wr.heap.size ≠ WO37.heap.size ∧ wr.heap.size ≤ WO37.heap.size ∧ _ ∧ wr.heap.size ≠ WO43.heap.size ∧ WO37.heap.size ≠ WO43.heap.size ∧ wr.heap.size ≤ WO43.heap.size ∧ _ from ⟨HO43.out.1.alloc HO43.out.1.size (.cells (bV zL) 26), HO43.out.2.1, blk_alloc HO43.out.2.2.1 (.cells (bV zL) 26), HO43.out.2.2.2.1, HO43.out.2.2.2.2.1, blk_alloc HO43.out.2.2.2.2.2 (.cells (bV zL) 26), other_block HO43.out.2.2.1 (Nat.le_refl _), other_block HO43.out.2.2.2.2.2 (Nat.le_refl _), HO43.out.1.size, blk_new WO43 (.cells (bV zL) 26)⟩)
                generalize WO43.alloc (.cells (bV zL) 26) = WO46 at *
                refine hK' _ _ (HO46.out.1) ?_
                clear hK' K'
                go_simp
                refine wpAnyH_one (i := 6) (by kernel_rfl) rfl (by kernel_rfl) (fun K' hK' => ?_)
                go_simp
                refine (tree_any 1 (by omega) (some ⟨wr.heap.size, 0, none⟩) (wr.heap.size) 0 1 [F] _ (oneR hF (HO46.out.2.2.1)) (by omega) (HR.out.2.2.2.below (HO46.out.1))).mono ?_
                rintro e WO47 ⟨rfl, hb47⟩
                rw [bV_dg, ← HS.out.2.1]
                have HO47 := Lib.hid (show Below wr.heap.size wr WO47 ∧ _ ∧ _ ∧ _ ∧ _ ∧ _ ∧ _ ∧ _ ∧ _ ∧ _ from ⟨below_after HO46.out.1 hb47 HO46.out.1.size, HO46.out.2.1, blk_below HO46.out.2.2.1 hb47 (blk_lt HO46.out.2.2.1), HO46.out.2.2.2.1, HO46.out.2.2.2.2.1, blk_below HO46.out.2.2.2.2.2.1 hb47 (blk_lt HO46.out.2.2.2.2.2.1), HO46.out.2.2.2.2.2.2.1, HO46.out.2.2.2.2.2.2.2.1, HO46.out.2.2.2.2.2.2.2.2.1, blk_below HO46.out.2.2.2.2.2.2.2.2.2 hb47 (blk_lt HO46.out.2.2.2.2.2.2.2.2.2)⟩)
                clear hb47
                refine hK' _ _ (HO47.out.1) ?_
                clear hK' K'
                go_simp
                refine wpAnyH_one (i := 9) (by kernel_rfl) rfl (by kernel_rfl) (fun K' hK' => ?_)
                refine wp_store_row 26 (.tmp 7) (.tmp 25) (by kernel_rfl) WO37.heap.size (bV (dgL sA)) (by kernel_rfl) (by kernel_rfl) 26 _ HO47.out.2.2.2.2.2.1 (sz_in (dgL_len _)) (sz_eq zL_len (dgL_len _)) (bV_one _) ?_
                have hf5 := setRow_heap _ WO37.heap.size _ (bV (dgL sA)) 26 (0, 0) HO47.out.2.2.2.2.2.1
                have hf6 := (setRow_other WO47 WO37.heap.size WO43.heap.size (bV (dgL sA)) (Ne.symm HO47.out.2.2.2.2.2.2.2.1)).trans HO47.out.2.2.2.2.2.2.2.2.2
                have hbw := below_setRow HO47.out.1 HO47.out.2.2.2.2.1 (bV (dgL sA))
                generalize WO47.setRow WO37.heap.size (bV (dgL sA)) = WZ at *
                refine hK' _ _ (hbw) ?_
                clear hK' K'
                go_simp
                refine wpAnyH_one (i := 10) (by kernel_rfl) rfl (by kernel_rfl) (fun K' hK' => ?_)
                refine wp_store_row 26 (.tmp 8) (.tmp 28) (by kernel_rfl) WO43.heap.size (bV (dgL sB)) (by kernel_rfl) (by kernel_rfl) 26 _ hf6 (sz_in (dgL_len _)) (sz_eq zL_len (dgL_len _)) (bV_one _) ?_
                have hg6 := setRow_heap _ WO43.heap.size _ (bV (dgL sB)) 26 (0, 0) hf6
                have hg5 := (setRow_other WZ WO43.heap.size WO37.heap.size (bV (dgL sB)) HO47.out.2.2.2.2.2.2.2.1).trans hf5
                have hbw2 := below_setRow hbw HO47.out.2.2.2.2.2.2.2.2.1 (bV (dgL sB))
                have HM := Lib.hid (show TwoD (dgL sA) (dgL sB) wr (.pointer (some ⟨WO37.heap.size, 0, none⟩)) (.pointer (some ⟨WO43.heap.size, 0, none⟩)) (WZ.setRow WO43.heap.size (bV (dgL sB))) from ⟨_, _, rfl, rfl, hg5, hg6, hbw2, HO47.out.2.2.2.2.1, HO47.out.2.2.2.2.2.2.2.2.1, HO47.out.2.2.2.2.2.2.2.1⟩)
                generalize WZ.setRow WO43.heap.size (bV (dgL sB)) = WY at *
                clear hg6 hg5 hf5 hf6 hbw
                refine hK' _ _ (hbw2) ?_
                clear hK' K'
                go_simp
                refine wpAnyH_done (by kernel_rfl) ?_ _
                refine NoPanic.normal ?_
                go_simp
                go_wp2_with fail
                go_meet
                case rel => exact HM.out
            · go_simp
              rw [zL_val]
              have HO48 := Lib.hid (show Below wr.heap.size wr _ ∧ wr.heap.size ≤ wr.heap.size ∧ _ ∧ wr.heap.size ≠ WO37.heap.size ∧ wr.heap.size ≤ WO37.heap.size ∧ _ from ⟨HO37.out.1.alloc HO37.out.1.size (.cells (bV zL) 26), HO37.out.2.1, blk_alloc HO37.out.2.2 (.cells (bV zL) 26), other_block HO37.out.2.2 (Nat.le_refl _), HO37.out.1.size, blk_new WO37 (.cells (bV zL) 26)⟩)
              generalize WO37.alloc (.cells (bV zL) 26) = WO48 at *
              refine hK' _ _ (HO48.out.1) ?_
              clear hK' K'
              go_simp
              refine wpAnyH_two (i := 6) (j := 7) (by kernel_rfl) rfl rfl (by kernel_rfl) (by kernel_rfl) (fun K' hK' => ?_) (fun K' hK' => ?_)
              · go_simp
                refine (tree_any 1 (by omega) (some ⟨wr.heap.size, 0, none⟩) (wr.heap.size) 0 1 [F] _ (oneR hF (HO48.out.2.2.1)) (by omega) (HR.out.2.2.2.below (HO48.out.1))).mono ?_
                rintro e WO49 ⟨rfl, hb49⟩
                rw [bV_dg, ← HS.out.2.1]
                have HO49 := Lib.hid (show Below wr.heap.size wr WO49 ∧ _ ∧ _ ∧ _ ∧ _ ∧ _ from ⟨below_after HO48.out.1 hb49 HO48.out.1.size, HO48.out.2.1, blk_below HO48.out.2.2.1 hb49 (blk_lt HO48.out.2.2.1), HO48.out.2.2.2.1, HO48.out.2.2.2.2.1, blk_below HO48.out.2.2.2.2.2 hb49 (blk_lt HO48.out.2.2.2.2.2)⟩)
                clear hb49
                refine hK' _ _ (HO49.out.1) ?_
                clear hK' K'
                go_simp
                refine wpAnyH_one (i := 7) (by kernel_rfl) rfl (by kernel_rfl) (fun K' hK' => ?_)
                go_simp
                rw [zL_val]
                have HO50 := Lib.hid (show Below wr.heap.size wr _ ∧ wr.heap.size ≤ wr.heap.size ∧ _ ∧ wr.heap.size ≠ WO37.heap.size ∧ wr.heap.size ≤ WO37.heap.size ∧ _ ∧ wr.heap.size ≠ WO49.heap.size ∧ WO37.heap.size ≠ WO49.heap.size ∧ wr.heap.size ≤ WO49.heap.size ∧ _ from ⟨HO49.out.1.alloc HO49.out.1.size (.cells (bV zL) 26), HO49.out.2.1, blk_alloc HO49.out.2.2.1 (.cells (bV zL) 26), HO49.out.2.2.2.1, HO49.out.2.2.2.2.1, blk_alloc HO49.out.2.2.2.2.2 (.cells (bV zL) 26), other_block HO49.out.2.2.1 (Nat.le_refl _), other_block HO49.out.2.2.2.2.2 (Nat.le_refl _), HO49.out.1.size, blk_new WO49 (.cells (bV zL) 26)⟩)
                generalize WO49.alloc (.cells (bV zL) 26) = WO50 at *
                refine hK' _ _ (HO50.out.1) ?_
                clear hK' K'
                go_simp
                refine wpAnyH_one (i := 9) (by kernel_rfl) rfl (by kernel_rfl) (fun K' hK' => ?_)
                refine wp_store_row 26 (.tmp 7) (.tmp 25) (by kernel_rfl) WO49.heap.size (bV (dgL sA)) (by kernel_rfl) (by kernel_rfl) 26 _ HO50.out.2.2.2.2.2.2.2.2.2 (sz_in (dgL_len _)) (sz_eq zL_len (dgL_len _)) (bV_one _) ?_
                have hf5 := setRow_heap _ WO49.heap.size _ (bV (dgL sA)) 26 (0, 0) HO50.out.2.2.2.2.2.2.2.2.2
                have hf6 := (setRow_other WO50 WO49.heap.size WO37.heap.size (bV (dgL sA)) HO50.out.2.2.2.2.2.2.2.1).trans HO50.out.2.2.2.2.2.1
                have hbw := below_setRow HO50.out.1 HO50.out.2.2.2.2.2.2.2.2.1 (bV (dgL sA))
                generalize WO50.setRow WO49.heap.size (bV (dgL sA)) = WZ at *
                refine hK' _ _ (hbw) ?_
                clear hK' K'
                go_simp
                refine wpAnyH_one (i := 10) (by kernel_rfl) rfl (by kernel_rfl) (fun K' hK' => ?_)
                refine wp_store_row 26 (.tmp 8) (.tmp 28) (by kernel_rfl) WO37.heap.size (bV (dgL sB)) (by kernel_rfl) (by kernel_rfl) 26 _ hf6 (sz_in (dgL_len _)) (sz_eq zL_len (dgL_len _)) (bV_one _) ?_
                have hg6 := setRow_heap _ WO37.heap.size _ (bV (dgL sB)) 26 (0, 0) hf6
                have hg5 := (setRow_other WZ WO37.heap.size WO49.heap.size (bV (dgL sB)) (Ne.symm HO50.out.2.2.2.2.2.2.2.1)).trans hf5
                have hbw2 := below_setRow hbw HO50.out.2.2.2.2.1 (bV (dgL sB))
                have HM := Lib.hid (show TwoD (dgL sA) (dgL sB) wr (.pointer (some ⟨WO49.heap.size, 0, none⟩)) (.pointer (some ⟨WO37.heap.size, 0, none⟩)) (WZ.setRow WO37.heap.size (bV (dgL sB))) from ⟨_, _, rfl, rfl, hg5, hg6, hbw2, HO50.out.2.2.2.2.2.2.2.2.1, HO50.out.2.2.2.2.1, (Ne.symm HO50.out.2.2.2.2.2.2.2.1)⟩)
                generalize WZ.setRow WO37.heap.size (bV (dgL sB)) = WY at *
                clear hg6 hg5 hf5 hf6 hbw
                refine hK' _ _ (hbw2) ?_
                clear hK' K'
                go_simp
                refine wpAnyH_done (by kernel_rfl) ?_ _
                refine NoPanic.normal ?_
                go_simp
                go_wp2_with fail
                go_meet
                case rel => exact HM.out
              · go_simp
                rw [zL_val]
                have HO51 := Lib.hid (show Below wr.heap.size wr _ ∧ wr.heap.size ≤ wr.heap.size ∧ _ ∧ wr.heap.size ≠ WO37.heap.size ∧ wr.heap.size ≤ WO37.heap.size ∧ _ ∧ wr.heap.size ≠ WO48.heap.size ∧ WO37.heap.size ≠ WO48.heap.size ∧ wr.heap.size ≤ WO48.heap.size ∧ _ from ⟨HO48.out.1.alloc HO48.out.1.size (.cells (bV zL) 26), HO48.out.2.1, blk_alloc HO48.out.2.2.1 (.cells (bV zL) 26), HO48.out.2.2.2.1, HO48.out.2.2.2.2.1, blk_alloc HO48.out.2.2.2.2.2 (.cells (bV zL) 26), other_block HO48.out.2.2.1 (Nat.le_refl _), other_block HO48.out.2.2.2.2.2 (Nat.le_refl _), HO48.out.1.size, blk_new WO48 (.cells (bV zL) 26)⟩)
                generalize WO48.alloc (.cells (bV zL) 26) = WO51 at *
                refine hK' _ _ (HO51.out.1) ?_
                clear hK' K'
                go_simp
                refine wpAnyH_one (i := 6) (by kernel_rfl) rfl (by kernel_rfl) (fun K' hK' => ?_)
                go_simp
                refine (tree_any 1 (by omega) (some ⟨wr.heap.size, 0, none⟩) (wr.heap.size) 0 1 [F] _ (oneR hF (HO51.out.2.2.1)) (by omega) (HR.out.2.2.2.below (HO51.out.1))).mono ?_
                rintro e WO52 ⟨rfl, hb52⟩
                rw [bV_dg, ← HS.out.2.1]
                have HO52 := Lib.hid (show Below wr.heap.size wr WO52 ∧ _ ∧ _ ∧ _ ∧ _ ∧ _ ∧ _ ∧ _ ∧ _ ∧ _ from ⟨below_after HO51.out.1 hb52 HO51.out.1.size, HO51.out.2.1, blk_below HO51.out.2.2.1 hb52 (blk_lt HO51.out.2.2.1), HO51.out.2.2.2.1, HO51.out.2.2.2.2.1, blk_below HO51.out.2.2.2.2.2.1 hb52 (blk_lt HO51.out.2.2.2.2.2.1), HO51.out.2.2.2.2.2.2.1, HO51.out.2.2.2.2.2.2.2.1, HO51.out.2.2.2.2.2.2.2.2.1, blk_below HO51.out.2.2.2.2.2.2.2.2.2 hb52 (blk_lt HO51.out.2.2.2.2.2.2.2.2.2)⟩)
                clear hb52
                refine hK' _ _ (HO52.out.1) ?_
                clear hK' K'
                go_simp
                refine wpAnyH_one (i := 9) (by kernel_rfl) rfl (by kernel_rfl) (fun K' hK' => ?_)
                refine wp_store_row 26 (.tmp 7) (.tmp 25) (by kernel_rfl) WO48.heap.size (bV (dgL sA)) (by kernel_rfl) (by kernel_rfl) 26 _ HO52.out.2.2.2.2.2.2.2.2.2 (sz_in (dgL_len _)) (sz_eq zL_len (dgL_len _)) (bV_one _) ?_
                have hf5 := setRow_heap _ WO48.heap.size _ (bV (dgL sA)) 26 (0, 0) HO52.out.2.2.2.2.2.2.2.2.2
                have hf6 := (setRow_other WO52 WO48.heap.size WO37.heap.size (bV (dgL sA)) HO52.out.2.2.2.2.2.2.2.1).trans HO52.out.2.2.2.2.2.1
                have hbw := below_setRow HO52.out.1 HO52.out.2.2.2.2.2.2.2.2.1 (bV (dgL sA))
                generalize WO52.setRow WO48.heap.size (bV (dgL sA)) = WZ at *
                refine hK' _ _ (hbw) ?_
                clear hK' K'
                go_simp
                refine wpAnyH_one (i := 10) (by kernel_rfl) rfl (by kernel_rfl) (fun K' hK' => ?_)
                refine wp_store_row 26 (.tmp 8) (.tmp 28) (by kernel_rfl) WO37.heap.size (bV (dgL sB)) (by kernel_rfl) (by kernel_rfl) 26 _ hf6 (sz_in (dgL_len _)) (sz_eq zL_len (dgL_len _)) (bV_one _) ?_
                have hg6 := setRow_heap _ WO37.heap.size _ (bV (dgL sB)) 26 (0, 0) hf6
                have hg5 := (setRow_other WZ WO37.heap.size WO48.heap.size (bV (dgL sB)) (Ne.symm HO52.out.2.2.2.2.2.2.2.1)).trans hf5
                have hbw2 := below_setRow hbw HO52.out.2.2.2.2.1 (bV (dgL sB))
                have HM := Lib.hid (show TwoD (dgL sA) (dgL sB) wr (.pointer (some ⟨WO48.heap.size, 0, none⟩)) (.pointer (some ⟨WO37.heap.size, 0, none⟩)) (WZ.setRow WO37.heap.size (bV (dgL sB))) from ⟨_, _, rfl, rfl, hg5, hg6, hbw2, HO52.out.2.2.2.2.2.2.2.2.1, HO52.out.2.2.2.2.1, (Ne.symm HO52.out.2.2.2.2.2.2.2.1)⟩)
                generalize WZ.setRow WO37.heap.size (bV (dgL sB)) = WY at *
                clear hg6 hg5 hf5 hf6 hbw
                refine hK' _ _ (hbw2) ?_
                clear hK' K'
                go_simp
                refine wpAnyH_done (by kernel_rfl) ?_ _
                refine NoPanic.normal ?_
                go_simp
                go_wp2_with fail
                go_meet
                case rel => exact HM.out
          · go_simp
            rw [zL_val]
            have HO53 := Lib.hid (show Below wr.heap.size wr _ ∧ wr.heap.size ≤ wr.heap.size ∧ _ ∧ wr.heap.size ≠ WO36.heap.size ∧ wr.heap.size ≤ WO36.heap.size ∧ _ from ⟨HO36.out.1.alloc HO36.out.1.size (.cells (bV zL) 26), HO36.out.2.1, blk_alloc HO36.out.2.2 (.cells (bV zL) 26), other_block HO36.out.2.2 (Nat.le_refl _), HO36.out.1.size, blk_new WO36 (.cells (bV zL) 26)⟩)
            generalize WO36.alloc (.cells (bV zL) 26) = WO53 at *
            refine hK' _ _ (HO53.out.1) ?_
            clear hK' K'
            go_simp
            refine wpAnyH_two (i := 3) (j := 8) (by kernel_rfl) rfl rfl (by kernel_rfl) (by kernel_rfl) (fun K' hK' => ?_) (fun K' hK' => ?_)
            · go_simp
              refine (tree_any k (by omega) (some ⟨lb, 0, none⟩) lb 0 lcap (L.take k) _ ((HR.out.2.1.take hkm hk0).below (HO53.out.1) (Nat.le_refl _)) (by omega) (HR.out.2.2.2.below (HO53.out.1))).mono ?_
              rintro e WO54 ⟨rfl, hb54⟩
              rw [bV_dg, ← HS.out.1]
              have HO54 := Lib.hid (show Below wr.heap.size wr WO54 ∧ _ ∧ _ ∧ _ ∧ _ ∧ _ from ⟨below_after HO53.out.1 hb54 HO53.out.1.size, HO53.out.2.1, blk_below HO53.out.2.2.1 hb54 (blk_lt HO53.out.2.2.1), HO53.out.2.2.2.1, HO53.out.2.2.2.2.1, blk_below HO53.out.2.2.2.2.2 hb54 (blk_lt HO53.out.2.2.2.2.2)⟩)
              clear hb54
              refine hK' _ _ (HO54.out.1) ?_
              clear hK' K'
              go_simp
              refine wpAnyH_two (i := 6) (j := 8) (by kernel_rfl) rfl rfl (by kernel_rfl) (by kernel_rfl) (fun K' hK' => ?_) (fun K' hK' => ?_)
              · go_simp
                refine (tree_any 1 (by omega) (some ⟨wr.heap.size, 0, none⟩) (wr.heap.size) 0 1 [F] _ (oneR hF (HO54.out.2.2.1)) (by omega) (HR.out.2.2.2.below (HO54.out.1))).mono ?_
                rintro e WO55 ⟨rfl, hb55⟩
                rw [bV_dg, ← HS.out.2.1]
                have HO55 := Lib.hid (show Below wr.heap.size wr WO55 ∧ _ ∧ _ ∧ _ ∧ _ ∧ _ from ⟨below_after HO54.out.1 hb55 HO54.out.1.size, HO54.out.2.1, blk_below HO54.out.2.2.1 hb55 (blk_lt HO54.out.2.2.1), HO54.out.2.2.2.1, HO54.out.2.2.2.2.1, blk_below HO54.out.2.2.2.2.2 hb55 (blk_lt HO54.out.2.2.2.2.2)⟩)
                clear hb55
                refine hK' _ _ (HO55.out.1) ?_
                clear hK' K'
                go_simp
                refine wpAnyH_one (i := 8) (by kernel_rfl) rfl (by kernel_rfl) (fun K' hK' => ?_)
                go_simp
                rw [zL_val]
                have HO56 := Lib.hid (show Below wr.heap.size wr _ ∧ wr.heap.size ≤ wr.heap.size ∧ _ ∧ wr.heap.size ≠ WO36.heap.size ∧ wr.heap.size ≤ WO36.heap.size ∧ _ ∧ wr.heap.size ≠ WO55.heap.size ∧ WO36.heap.size ≠ WO55.heap.size ∧ wr.heap.size ≤ WO55.heap.size ∧ _ from ⟨HO55.out.1.alloc HO55.out.1.size (.cells (bV zL) 26), HO55.out.2.1, blk_alloc HO55.out.2.2.1 (.cells (bV zL) 26), HO55.out.2.2.2.1, HO55.out.2.2.2.2.1, blk_alloc HO55.out.2.2.2.2.2 (.cells (bV zL) 26), other_block HO55.out.2.2.1 (Nat.le_refl _), other_block HO55.out.2.2.2.2.2 (Nat.le_refl _), HO55.out.1.size, blk_new WO55 (.cells (bV zL) 26)⟩)
                generalize WO55.alloc (.cells (bV zL) 26) = WO56 at *
                refine hK' _ _ (HO56.out.1) ?_
                clear hK' K'
                go_simp
                refine wpAnyH_one (i := 9) (by kernel_rfl) rfl (by kernel_rfl) (fun K' hK' => ?_)
                refine wp_store_row 26 (.tmp 7) (.tmp 25) (by kernel_rfl) WO36.heap.size (bV (dgL sA)) (by kernel_rfl) (by kernel_rfl) 26 _ HO56.out.2.2.2.2.2.1 (sz_in (dgL_len _)) (sz_eq zL_len (dgL_len _)) (bV_one _) ?_
                have hf5 := setRow_heap _ WO36.heap.size _ (bV (dgL sA)) 26 (0, 0) HO56.out.2.2.2.2.2.1
                have hf6 := (setRow_other WO56 WO36.heap.size WO55.heap.size (bV (dgL sA)) (Ne.symm HO56.out.2.2.2.2.2.2.2.1)).trans HO56.out.2.2.2.2.2.2.2.2.2
                have hbw := below_setRow HO56.out.1 HO56.out.2.2.2.2.1 (bV (dgL sA))
                generalize WO56.setRow WO36.heap.size (bV (dgL sA)) = WZ at *
                refine hK' _ _ (hbw) ?_
                clear hK' K'
                go_simp
                refine wpAnyH_one (i := 10) (by kernel_rfl) rfl (by kernel_rfl) (fun K' hK' => ?_)
                refine wp_store_row 26 (.tmp 8) (.tmp 28) (by kernel_rfl) WO55.heap.size (bV (dgL sB)) (by kernel_rfl) (by kernel_rfl) 26 _ hf6 (sz_in (dgL_len _)) (sz_eq zL_len (dgL_len _)) (bV_one _) ?_
                have hg6 := setRow_heap _ WO55.heap.size _ (bV (dgL sB)) 26 (0, 0) hf6
                have hg5 := (setRow_other WZ WO55.heap.size WO36.heap.size (bV (dgL sB)) HO56.out.2.2.2.2.2.2.2.1).trans hf5
                have hbw2 := below_setRow hbw HO56.out.2.2.2.2.2.2.2.2.1 (bV (dgL sB))
                have HM := Lib.hid (show TwoD (dgL sA) (dgL sB) wr (.pointer (some ⟨WO36.heap.size, 0, none⟩)) (.pointer (some ⟨WO55.heap.size, 0, none⟩)) (WZ.setRow WO55.heap.size (bV (dgL sB))) from ⟨_, _, rfl, rfl, hg5, hg6, hbw2, HO56.out.2.2.2.2.1, HO56.out.2.2.2.2.2.2.2.2.1, HO56.out.2.2.2.2.2.2.2.1⟩)
                generalize WZ.setRow WO55.heap.size (bV (dgL sB)) = WY at *
                clear hg6 hg5 hf5 hf6 hbw
                refine hK' _ _ (hbw2) ?_
                clear hK' K'
                go_simp
                refine wpAnyH_done (by kernel_rfl) ?_ _
                refine NoPanic.normal ?_
                go_simp
                go_wp2_with fail
                go_meet
                case rel => exact HM.out
              · go_simp
                rw [zL_val]
                have HO57 := Lib.hid (show Below wr.heap.size wr _ ∧ wr.heap.size ≤ wr.heap.size ∧ _ ∧ wr.heap.size ≠ WO36.heap.size ∧ wr.heap.size ≤ WO36.heap.size ∧ _ ∧ wr.heap.size ≠ WO54.heap.size ∧ WO36.heap.size ≠ WO54.heap.size ∧ wr.heap.size ≤ WO54.heap.size ∧ _ from ⟨HO54.out.1.alloc HO54.out.1.size (.cells (bV zL) 26), HO54.out.2.1, blk_alloc HO54.out.2.2.1 (.cells (bV zL) 26), HO54.out.2.2.2.1, HO54.out.2.2.2.2.1, blk_alloc HO54.out.2.2.2.2.2 (.cells (bV zL) 26), other_block HO54.out.2.2.1 (Nat.le_refl _), other_block HO54.out.2.2.2.2.2 (Nat.le_refl _), HO54.out.1.size, blk_new WO54 (.cells (bV zL) 26)⟩)
                generalize WO54.alloc (.cells (bV zL) 26) = WO57 at *
                refine hK' _ _ (HO57.out.1) ?_
                clear hK' K'
                go_simp
                refine wpAnyH_one (i := 6) (by kernel_rfl) rfl (by kernel_rfl) (fun K' hK' => ?_)
                go_simp
                refine (tree_any 1 (by omega) (some ⟨wr.heap.size, 0, none⟩) (wr.heap.size) 0 1 [F] _ (oneR hF (HO57.out.2.2.1)) (by omega) (HR.out.2.2.2.below (HO57.out.1))).mono ?_
                rintro e WO58 ⟨rfl, hb58⟩
                rw [bV_dg, ← HS.out.2.1]
                have HO58 := Lib.hid (show Below wr.heap.size wr WO58 ∧ _ ∧ _ ∧ _ ∧ _ ∧ _ ∧ _ ∧ _ ∧ _ ∧ _ from ⟨below_after HO57.out.1 hb58 HO57.out.1.size, HO57.out.2.1, blk_below HO57.out.2.2.1 hb58 (blk_lt HO57.out.2.2.1), HO57.out.2.2.2.1, HO57.out.2.2.2.2.1, blk_below HO57.out.2.2.2.2.2.1 hb58 (blk_lt HO57.out.2.2.2.2.2.1), HO57.out.2.2.2.2.2.2.1, HO57.out.2.2.2.2.2.2.2.1, HO57.out.2.2.2.2.2.2.2.2.1, blk_below HO57.out.2.2.2.2.2.2.2.2.2 hb58 (blk_lt HO57.out.2.2.2.2.2.2.2.2.2)⟩)
                clear hb58
                refine hK' _ _ (HO58.out.1) ?_
                clear hK' K'
                go_simp
                refine wpAnyH_one (i := 9) (by kernel_rfl) rfl (by kernel_rfl) (fun K' hK' => ?_)
                refine wp_store_row 26 (.tmp 7) (.tmp 25) (by kernel_rfl) WO36.heap.size (bV (dgL sA)) (by kernel_rfl) (by kernel_rfl) 26 _ HO58.out.2.2.2.2.2.1 (sz_in (dgL_len _)) (sz_eq zL_len (dgL_len _)) (bV_one _) ?_
                have hf5 := setRow_heap _ WO36.heap.size _ (bV (dgL sA)) 26 (0, 0) HO58.out.2.2.2.2.2.1
                have hf6 := (setRow_other WO58 WO36.heap.size WO54.heap.size (bV (dgL sA)) (Ne.symm HO58.out.2.2.2.2.2.2.2.1)).trans HO58.out.2.2.2.2.2.2.2.2.2
                have hbw := below_setRow HO58.out.1 HO58.out.2.2.2.2.1 (bV (dgL sA))
                generalize WO58.setRow WO36.heap.size (bV (dgL sA)) = WZ at *
                refine hK' _ _ (hbw) ?_
                clear hK' K'
                go_simp
                refine wpAnyH_one (i := 10) (by kernel_rfl) rfl (by kernel_rfl) (fun K' hK' => ?_)
                refine wp_store_row 26 (.tmp 8) (.tmp 28) (by kernel_rfl) WO54.heap.size (bV (dgL sB)) (by kernel_rfl) (by kernel_rfl) 26 _ hf6 (sz_in (dgL_len _)) (sz_eq zL_len (dgL_len _)) (bV_one _) ?_
                have hg6 := setRow_heap _ WO54.heap.size _ (bV (dgL sB)) 26 (0, 0) hf6
                have hg5 := (setRow_other WZ WO54.heap.size WO36.heap.size (bV (dgL sB)) HO58.out.2.2.2.2.2.2.2.1).trans hf5
                have hbw2 := below_setRow hbw HO58.out.2.2.2.2.2.2.2.2.1 (bV (dgL sB))
                have HM := Lib.hid (show TwoD (dgL sA) (dgL sB) wr (.pointer (some ⟨WO36.heap.size, 0, none⟩)) (.pointer (some ⟨WO54.heap.size, 0, none⟩)) (WZ.setRow WO54.heap.size (bV (dgL sB))) from ⟨_, _, rfl, rfl, hg5, hg6, hbw2, HO58.out.2.2.2.2.1, HO58.out.2.2.2.2.2.2.2.2.1, HO58.out.2.2.2.2.2.2.2.1⟩)
                generalize WZ.setRow WO54.heap.size (bV (dgL sB)) = WY at *
                clear hg6 hg5 hf5 hf6 hbw
                refine hK' _ _ (hbw2) ?_
                clear hK' K'
                go_simp
                refine wpAnyH_done (by kernel_rfl) ?_ _
                refine NoPanic.normal ?_
                go_simp
                go_wp2_with fail
                go_meet
                case rel => exact HM.out
            · go_simp
              rw [zL_val]
              have HO59 := Lib.hid (show Below wr.heap.size wr _ ∧ wr.heap.size ≤ wr.heap.size ∧ _ ∧ wr.heap.size ≠ WO36.heap.size ∧ wr.heap.size ≤ WO36.heap.size ∧ _ ∧ wr.heap.size ≠ WO53.heap.size ∧ WO36.heap.size ≠ WO53.heap.size ∧ wr.heap.size ≤ WO53.heap.size ∧ _ from ⟨HO53.out.1.alloc HO53.out.1.size (.cells (bV zL) 26), HO53.out.2.1, blk_alloc HO53.out.2.2.1 (.cells (bV zL) 26), HO53.out.2.2.2.1, HO53.out.2.2.2.2.1, blk_alloc HO53.out.2.2.2.2.2 (.cells (bV zL) 26), other_block HO53.out.2.2.1 (Nat.le_refl _), other_block HO53.out.2.2.2.2.2 (Nat.le_refl _), HO53.out.1.size, blk_new WO53 (.cells (bV zL) 26)⟩)
              generalize WO53.alloc (.cells (bV zL) 26) = WO59 at *
              refine hK' _ _ (HO59.out.1) ?_
              clear hK' K'
              go_simp
              refine wpAnyH_one (i := 3) (by kernel_rfl) rfl (by kernel_rfl) (fun K' hK' => ?_)
              go_simp
              refine (tree_any k (by omega) (some ⟨lb, 0, none⟩) lb 0 lcap (L.take k) _ ((HR.out.2.1.take hkm hk0).below (HO59.out.1) (Nat.le_refl _)) (by omega) (HR.out.2.2.2.below (HO59.out.1))).mono ?_
              rintro e WO60 ⟨rfl, hb60⟩
              rw [bV_dg, ← HS.out.1]
              have HO60 := Lib.hid (show Below wr.heap.size wr WO60 ∧ _ ∧ _ ∧ _ ∧ _ ∧ _ ∧ _ ∧ _ ∧ _ ∧ _ from ⟨below_after HO59.out.1 hb60 HO59.out.1.size, HO59.out.2.1, blk_below HO59.out.2.2.1 hb60 (blk_lt HO59.out.2.2.1), HO59.out.2.2.2.1, HO59.out.2.2.2.2.1, blk_below HO59.out.2.2.2.2.2.1 hb60 (blk_lt HO59.out.2.2.2.2.2.1), HO59.out.2.2.2.2.2.2.1, HO59.out.2.2.2.2.2.2.2.1, HO59.out.2.2.2.2.2.2.2.2.1, blk_below HO59.out.2.2.2.2.2.2.2.2.2 hb60 (blk_lt HO59.out.2.2.2.2.2.2.2.2.2)⟩)
              clear hb60
              refine hK' _ _ (HO60.out.1) ?_
              clear hK' K'
              go_simp
              refine wpAnyH_one (i := 6) (by kernel_rfl) rfl (by kernel_rfl) (fun K' hK' => ?_)
              go_simp
              refine (tree_any 1 (by omega) (some ⟨wr.heap.size, 0, none⟩) (wr.heap.size) 0 1 [F] _ (oneR hF (HO60.out.2.2.1)) (by omega) (HR.out.2.2.2.below (HO60.out.1))).mono ?_
              rintro e WO61 ⟨rfl, hb61⟩
              rw [bV_dg, ← HS.out.2.1]
              have HO61 := Lib.hid (show Below wr.heap.size wr WO61 ∧ _ ∧ _ ∧ _ ∧ _ ∧ _ ∧ _ ∧ _ ∧ _ ∧ _ from ⟨below_after HO60.out.1 hb61 HO60.out.1.size, HO60.out.2.1, blk_below HO60.out.2.2.1 hb61 (blk_lt HO60.out.2.2.1), HO60.out.2.2.2.1, HO60.out.2.2.2.2.1, blk_below HO60.out.2.2.2.2.2.1 hb61 (blk_lt HO60.out.2.2.2.2.2.1), HO60.out.2.2.2.2.2.2.1, HO60.out.2.2.2.2.2.2.2.1, HO60.out.2.2.2.2.2.2.2.2.1, blk_below HO60.out.2.2.2.2.2.2.2.2.2 hb61 (blk_lt HO60.out.2.2.2.2.2.2.2.2.2)⟩)
              clear hb61
              refine hK' _ _ (HO61.out.1) ?_
              clear hK' K'
              go_simp
              refine wpAnyH_one (i := 9) (by kernel_rfl) rfl (by kernel_rfl) (fun K' hK' => ?_)
              refine wp_store_row 26 (.tmp 7) (.tmp 25) (by kernel_rfl) WO36.heap.size (bV (dgL sA)) (by kernel_rfl) (by kernel_rfl) 26 _ HO61.out.2.2.2.2.2.1 (sz_in (dgL_len _)) (sz_eq zL_len (dgL_len _)) (bV_one _) ?_
              have hf5 := setRow_heap _ WO36.heap.size _ (bV (dgL sA)) 26 (0, 0) HO61.out.2.2.2.2.2.1
              have hf6 := (setRow_other WO61 WO36.heap.size WO53.heap.size (bV (dgL sA)) (Ne.symm HO61.out.2.2.2.2.2.2.2.1)).trans HO61.out.2.2.2.2.2.2.2.2.2
              have hbw := below_setRow HO61.out.1 HO61.out.2.2.2.2.1 (bV (dgL sA))
              generalize WO61.setRow WO36.heap.size (bV (dgL sA)) = WZ at *
              refine hK' _ _ (hbw) ?_
              clear hK' K'
              go_simp
              refine wpAnyH_one (i := 10) (by kernel_rfl) rfl (by kernel_rfl) (fun K' hK' => ?_)
              refine wp_store_row 26 (.tmp 8) (.tmp 28) (by kernel_rfl) WO53.heap.size (bV (dgL sB)) (by kernel_rfl) (by kernel_rfl) 26 _ hf6 (sz_in (dgL_len _)) (sz_eq zL_len (dgL_len _)) (bV_one _) ?_
              have hg6 := setRow_heap _ WO53.heap.size _ (bV (dgL sB)) 26 (0, 0) hf6
              have hg5 := (setRow_other WZ WO53.heap.size WO36.heap.size (bV (dgL sB)) HO61.out.2.2.2.2.2.2.2.1).trans hf5
              have hbw2 := below_setRow hbw HO61.out.2.2.2.2.2.2.2.2.1 (bV (dgL sB))
              have HM := Lib.hid (show TwoD (dgL sA) (dgL sB) wr (.pointer (some ⟨WO36.heap.size, 0, none⟩)) (.pointer (some ⟨WO53.heap.size, 0, none⟩)) (WZ.setRow WO53.heap.size (bV (dgL sB))) from ⟨_, _, rfl, rfl, hg5, hg6, hbw2, HO61.out.2.2.2.2.1, HO61.out.2.2.2.2.2.2.2.2.1, HO61.out.2.2.2.2.2.2.2.1⟩)
              generalize WZ.setRow WO53.heap.size (bV (dgL sB)) = WY at *
              clear hg6 hg5 hf5 hf6 hbw
              refine hK' _ _ (hbw2) ?_
              clear hK' K'
              go_simp
              refine wpAnyH_done (by kernel_rfl) ?_ _
              refine NoPanic.normal ?_
              go_simp
              go_wp2_with fail
              go_meet
              case rel => exact HM.out
          · go_simp
            rw [zL_val]
            have HO62 := Lib.hid (show Below wr.heap.size wr _ ∧ wr.heap.size ≤ wr.heap.size ∧ _ ∧ wr.heap.size ≠ WO36.heap.size ∧ wr.heap.size ≤ WO36.heap.size ∧ _ from ⟨HO36.out.1.alloc HO36.out.1.size (.cells (bV zL) 26), HO36.out.2.1, blk_alloc HO36.out.2.2 (.cells (bV zL) 26), other_block HO36.out.2.2 (Nat.le_refl _), HO36.out.1.size, blk_new WO36 (.cells (bV zL) 26)⟩)
            generalize WO36.alloc (.cells (bV zL) 26) = WO62 at *
            refine hK' _ _ (HO62.out.1) ?_
            clear hK' K'
            go_simp
            refine wpAnyH_two (i := 3) (j := 7) (by kernel_rfl) rfl rfl (by kernel_rfl) (by kernel_rfl) (fun K' hK' => ?_) (fun K' hK' => ?_)
            · go_simp
              refine (tree_any k (by omega) (some ⟨lb, 0, none⟩) lb 0 lcap (L.take k) _ ((HR.out.2.1.take hkm hk0).below (HO62.out.1) (Nat.le_refl _)) (by omega) (HR.out.2.2.2.below (HO62.out.1))).mono ?_
              rintro e WO63 ⟨rfl, hb63⟩
              rw [bV_dg, ← HS.out.1]
              have HO63 := Lib.hid (show Below wr.heap.size wr WO63 ∧ _ ∧ _ ∧ _ ∧ _ ∧ _ from ⟨below_after HO62.out.1 hb63 HO62.out.1.size, HO62.out.2.1, blk_below HO62.out.2.2.1 hb63 (blk_lt HO62.out.2.2.1), HO62.out.2.2.2.1, HO62.out.2.2.2.2.1, blk_below HO62.out.2.2.2.2.2 hb63 (blk_lt HO62.out.2.2.2.2.2)⟩)
              clear hb63
              refine hK' _ _ (HO63.out.1) ?_
              clear hK' K'
              go_simp
              refine wpAnyH_two (i := 6) (j := 7) (by kernel_rfl) rfl rfl (by kernel_rfl) (by kernel_rfl) (fun K' hK' => ?_) (fun K' hK' => ?_)
              · go_simp
                refine (tree_any 1 (by omega) (some ⟨wr.heap.size, 0, none⟩) (wr.heap.size) 0 1 [F] _ (oneR hF (HO63.out.2.2.1)) (by omega) (HR.out.2.2.2.below (HO63.out.1))).mono ?_
                rintro e WO64 ⟨rfl, hb64⟩
                rw [bV_dg, ← HS.out.2.1]
                have HO64 := Lib.hid (show Below wr.heap.size wr WO64 ∧ _ ∧ _ ∧ _ ∧ _ ∧ _ from ⟨below_after HO63.out.1 hb64 HO63.out.1.size, HO63.out.2.1, blk_below HO63.out.2.2.1 hb64 (blk_lt HO63.out.2.2.1), HO63.out.2.2.2.1, HO63.out.2.2.2.2.1, blk_below HO63.out.2.2.2.2.2 hb64 (blk_lt HO63.out.2.2.2.2.2)⟩)
                clear hb64
                refine hK' _ _ (HO64.out.1) ?_
                clear hK' K'
                go_simp
                refine wpAnyH_one (i := 7) (by kernel_rfl) rfl (by kernel_rfl) (fun K' hK' => ?_)
                go_simp
                rw [zL_val]
                have HO65 := Lib.hid (show Below wr.heap.size wr _ ∧ wr.heap.size ≤ wr.heap.size ∧ _ ∧ wr.heap.size ≠ WO36.heap.size ∧ wr.heap.size ≤ WO36.heap.size ∧ _ ∧ wr.heap.size ≠ WO64.heap.size ∧ WO36.heap.size ≠ WO64.heap.size ∧ wr.heap.size ≤ WO64.heap.size ∧ _ from ⟨HO64.out.1.alloc HO64.out.1.size (.cells (bV zL) 26), HO64.out.2.1, blk_alloc HO64.out.2.2.1 (.cells (bV zL) 26), HO64.out.2.2.2.1, HO64.out.2.2.2.2.1, blk_alloc HO64.out.2.2.2.2.2 (.cells (bV zL) 26), other_block HO64.out.2.2.1 (Nat.le_refl _), other_block HO64.out.2.2.2.2.2 (Nat.le_refl _), HO64.out.1.size, blk_new WO64 (.cells (bV zL) 26)⟩)
                generalize WO64.alloc (.cells (bV zL) 26) = WO65 at *
                refine hK' _ _ (HO65.out.1) ?_
                clear hK' K'
                go_simp
                refine wpAnyH_one (i := 9) (by kernel_rfl) rfl (by kernel_rfl) (fun K' hK' => ?_)
                refine wp_store_row 26 (.tmp 7) (.tmp 25) (by kernel_rfl) WO64.heap.size (bV (dgL sA)) (by kernel_rfl) (by kernel_rfl) 26 _ HO65.out.2.2.2.2.2.2.2.2.2 (sz_in (dgL_len _)) (sz_eq zL_len (dgL_len _)) (bV_one _) ?_
                have hf5 := setRow_heap _ WO64.heap.size _ (bV (dgL sA)) 26 (0, 0) HO65.out.2.2.2.2.2.2.2.2.2
                have hf6 := (setRow_other WO65 WO64.heap.size WO36.heap.size (bV (dgL sA)) HO65.out.2.2.2.2.2.2.2.1).trans HO65.out.2.2.2.2.2.1
                have hbw := below_setRow HO65.out.1 HO65.out.2.2.2.2.2.2.2.2.1 (bV (dgL sA))
                generalize WO65.setRow WO64.heap.size (bV (dgL sA)) = WZ at *
                refine hK' _ _ (hbw) ?_
                clear hK' K'
                go_simp
                refine wpAnyH_one (i := 10) (by kernel_rfl) rfl (by kernel_rfl) (fun K' hK' => ?_)
                refine wp_store_row 26 (.tmp 8) (.tmp 28) (by kernel_rfl) WO36.heap.size (bV (dgL sB)) (by kernel_rfl) (by kernel_rfl) 26 _ hf6 (sz_in (dgL_len _)) (sz_eq zL_len (dgL_len _)) (bV_one _) ?_
                have hg6 := setRow_heap _ WO36.heap.size _ (bV (dgL sB)) 26 (0, 0) hf6
                have hg5 := (setRow_other WZ WO36.heap.size WO64.heap.size (bV (dgL sB)) (Ne.symm HO65.out.2.2.2.2.2.2.2.1)).trans hf5
                have hbw2 := below_setRow hbw HO65.out.2.2.2.2.1 (bV (dgL sB))
                have HM := Lib.hid (show TwoD (dgL sA) (dgL sB) wr (.pointer (some ⟨WO64.heap.size, 0, none⟩)) (.pointer (some ⟨WO36.heap.size, 0, none⟩)) (WZ.setRow WO36.heap.size (bV (dgL sB))) from ⟨_, _, rfl, rfl, hg5, hg6, hbw2, HO65.out.2.2.2.2.2.2.2.2.1, HO65.out.2.2.2.2.1, (Ne.symm HO65.out.2.2.2.2.2.2.2.1)⟩)
                generalize WZ.setRow WO36.heap.size (bV (dgL sB)) = WY at *
                clear hg6 hg5 hf5 hf6 hbw
                refine hK' _ _ (hbw2) ?_
                clear hK' K'
                go_simp
                refine wpAnyH_done (by kernel_rfl) ?_ _
                refine NoPanic.normal ?_
                go_simp
                go_wp2_with fail
                go_meet
                case rel => exact HM.out
              · go_simp
                rw [zL_val]
                have HO66 := Lib.hid (show Below wr.heap.size wr _ ∧ wr.heap.size ≤ wr.heap.size ∧ _ ∧ wr.heap.size ≠ WO36.heap.size ∧ wr.heap.size ≤ WO36.heap.size ∧ _ ∧ wr.heap.size ≠ WO63.heap.size ∧ WO36.heap.size ≠ WO63.heap.size ∧ wr.heap.size ≤ WO63.heap.size ∧ _ from ⟨HO63.out.1.alloc HO63.out.1.size (.cells (bV zL) 26), HO63.out.2.1, blk_alloc HO63.out.2.2.1 (.cells (bV zL) 26), HO63.out.2.2.2.1, HO63.out.2.2.2.2.1, blk_alloc HO63.out.2.2.2.2.2 (.cells (bV zL) 26), other_block HO63.out.2.2.1 (Nat.le_refl _), other_block HO63.out.2.2.2.2.2 (Nat.le_refl _), HO63.out.1.size, blk_new WO63 (.cells (bV zL) 26)⟩)
                generalize WO63.alloc (.cells (bV zL) 26) = WO66 at *
                refine hK' _ _ (HO66.out.1) ?_
                clear hK' K'
                go_simp
                refine wpAnyH_one (i := 6) (by kernel_rfl) rfl (by kernel_rfl) (fun K' hK' => ?_)
                go_simp
                refine (tree_any 1 (by omega) (some ⟨wr.heap.size, 0, none⟩) (wr.heap.size) 0 1 [F] _ (oneR hF (HO66.out.2.2.1)) (by omega) (HR.out.2.2.2.below (HO66.out.1))).mono ?_
                rintro e WO67 ⟨rfl, hb67⟩
                rw [bV_dg, ← HS.out.2.1]
                have HO67 := Lib.hid (show Below wr.heap.size wr WO67 ∧ _ ∧ _ ∧ _ ∧ _ ∧ _ ∧ _ ∧ _ ∧ _ ∧ _ from ⟨below_after HO66.out.1 hb67 HO66.out.1.size, HO66.out.2.1, blk_below HO66.out.2.2.1 hb67 (blk_lt HO66.out.2.2.1), HO66.out.2.2.2.1, HO66.out.2.2.2.2.1, blk_below HO66.out.2.2.2.2.2.1 hb67 (blk_lt HO66.out.2.2.2.2.2.1), HO66.out.2.2.2.2.2.2.1, HO66.out.2.2.2.2.2.2.2.1, HO66.out.2.2.2.2.2.2.2.2.1, blk_below HO66.out.2.2.2.2.2.2.2.2.2 hb67 (blk_lt HO66.out.2.2.2.2.2.2.2.2.2)⟩)
                clear hb67
                refine hK' _ _ (HO67.out.1) ?_
                clear hK' K'
                go_simp
                refine wpAnyH_one (i := 9) (by kernel_rfl) rfl (by kernel_rfl) (fun K' hK' => ?_)
                refine wp_store_row 26 (.tmp 7) (.tmp 25) (by kernel_rfl) WO63.heap.size (bV (dgL sA)) (by kernel_rfl) (by kernel_rfl) 26 _ HO67.out.2.2.2.2.2.2.2.2.2 (sz_in (dgL_len _)) (sz_eq zL_len (dgL_len _)) (bV_one _) ?_
                have hf5 := setRow_heap _ WO63.heap.size _ (bV (dgL sA)) 26 (0, 0) HO67.out.2.2.2.2.2.2.2.2.2
                have hf6 := (setRow_other WO67 WO63.heap.size WO36.heap.size (bV (dgL sA)) HO67.out.2.2.2.2.2.2.2.1).trans HO67.out.2.2.2.2.2.1
                have hbw := below_setRow HO67.out.1 HO67.out.2.2.2.2.2.2.2.2.1 (bV (dgL sA))
                generalize WO67.setRow WO63.heap.size (bV (dgL sA)) = WZ at *
                refine hK' _ _ (hbw) ?_
                clear hK' K'
                go_simp
                refine wpAnyH_one (i := 10) (by kernel_rfl) rfl (by kernel_rfl) (fun K' hK' => ?_)
                refine wp_store_row 26 (.tmp 8) (.tmp 28) (by kernel_rfl) WO36.heap.size (bV (dgL sB)) (by kernel_rfl) (by kernel_rfl) 26 _ hf6 (sz_in (dgL_len _)) (sz_eq zL_len (dgL_len _)) (bV_one _) ?_
                have hg6 := setRow_heap _ WO36.heap.size _ (bV (dgL sB)) 26 (0, 0) hf6
                have hg5 := (setRow_other WZ WO36.heap.size WO63.heap.size (bV (dgL sB)) (Ne.symm HO67.out.2.2.2.2.2.2.2.1)).trans hf5
                have hbw2 := below_setRow hbw HO67.out.2.2.2.2.1 (bV (dgL sB))
                have HM := Lib.hid (show TwoD (dgL sA) (dgL sB) wr (.pointer (some ⟨WO63.heap.size, 0, none⟩)) (.pointer (some ⟨WO36.heap.size, 0, none⟩)) (WZ.setRow WO36.heap.size (bV (dgL sB))) from ⟨_, _, rfl, rfl, hg5, hg6, hbw2, HO67.out.2.2.2.2.2.2.2.2.1, HO67.out.2.2.2.2.1, (Ne.symm HO67.out.2.2.2.2.2.2.2.1)⟩)
                generalize WZ.setRow WO36.heap.size (bV (dgL sB)) = WY at *
                clear hg6 hg5 hf5 hf6 hbw
                refine hK' _ _ (hbw2) ?_
                clear hK' K'
                go_simp
                refine wpAnyH_done (by kernel_rfl) ?_ _
                refine NoPanic.normal ?_
                go_simp
                go_wp2_with fail
                go_meet
                case rel => exact HM.out
            · go_simp
              rw [zL_val]
              have HO68 := Lib.hid (show Below wr.heap.size wr _ ∧ wr.heap.size ≤ wr.heap.size ∧ _ ∧ wr.heap.size ≠ WO36.heap.size ∧ wr.heap.size ≤ WO36.heap.size ∧ _ ∧ wr.heap.size ≠ WO62.heap.size ∧ WO36.heap.size ≠ WO62.heap.size ∧ wr.heap.size ≤ WO62.heap.size ∧ _ from ⟨HO62.out.1.alloc HO62.out.1.size (.cells (bV zL) 26), HO62.out.2.1, blk_alloc HO62.out.2.2.1 (.cells (bV zL) 26), HO62.out.2.2.2.1, HO62.out.2.2.2.2.1, blk_alloc HO62.out.2.2.2.2.2 (.cells (bV zL) 26), other_block HO62.out.2.2.1 (Nat.le_refl _), other_block HO62.out.2.2.2.2.2 (Nat.le_refl _), HO62.out.1.size, blk_new WO62 (.cells (bV zL) 26)⟩)
              generalize WO62.alloc (.cells (bV zL) 26) = WO68 at *
              refine hK' _ _ (HO68.out.1) ?_
              clear hK' K'
              go_simp
              refine wpAnyH_one (i := 3) (by kernel_rfl) rfl (by kernel_rfl) (fun K' hK' => ?_)
              go_simp
              refine (tree_any k (by omega) (some ⟨lb, 0, none⟩) lb 0 lcap (L.take k) _ ((HR.out.2.1.take hkm hk0).below (HO68.out.1) (Nat.le_refl _)) (by omega) (HR.out.2.2.2.below (HO68.out.1))).mono ?_
              rintro e WO69 ⟨rfl, hb69⟩
              rw [bV_dg, ← HS.out.1]
              have HO69 := Lib.hid (show Below wr.heap.size wr WO69 ∧ _ ∧ _ ∧ _ ∧ _ ∧ _ ∧ _ ∧ _ ∧ _ ∧ _ from ⟨below_after HO68.out.1 hb69 HO68.out.1.size, HO68.out.2.1, blk_below HO68.out.2.2.1 hb69 (blk_lt HO68.out.2.2.1), HO68.out.2.2.2.1, HO68.out.2.2.2.2.1, blk_below HO68.out.2.2.2.2.2.1 hb69 (blk_lt HO68.out.2.2.2.2.2.1), HO68.out.2.2.2.2.2.2.1, HO68.out.2.2.2.2.2.2.2.1, HO68.out.2.2.2.2.2.2.2.2.1, blk_below HO68.out.2.2.2.2.2.2.2.2.2 hb69 (blk_lt HO68.out.2.2.2.2.2.2.2.2.2)⟩)
              clear hb69
              refine hK' _ _ (HO69.out.1) ?_
              clear hK' K'
              go_simp
              refine wpAnyH_one (i := 6) (by kernel_rfl) rfl (by kernel_rfl) (fun K' hK' => ?_)
              go_simp
              refine (tree_any 1 (by omega) (some ⟨wr.heap.size, 0, none⟩) (wr.heap.size) 0 1 [F] _ (oneR hF (HO69.out.2.2.1)) (by omega) (HR.out.2.2.2.below (HO69.out.1))).mono ?_
              rintro e WO70 ⟨rfl, hb70⟩
              rw [bV_dg, ← HS.out.2.1]
              have HO70 := Lib.hid (show Below wr.heap.size wr WO70 ∧ _ ∧ _ ∧ _ ∧ _ ∧ _ ∧ _ ∧ _ ∧ _ ∧ _ from ⟨below_after HO69.out.1 hb70 HO69.out.1.size, HO69.out.2.1, blk_below HO69.out.2.2.1 hb70 (blk_lt HO69.out.2.2.1), HO69.out.2.2.2.1, HO69.out.2.2.2.2.1, blk_below HO69.out.2.2.2.2.2.1 hb70 (blk_lt HO69.out.2.2.2.2.2.1), HO69.out.2.2.2.2.2.2.1, HO69.out.2.2.2.2.2.2.2.1, HO69.out.2.2.2.2.2.2.2.2.1, blk_below HO69.out.2.2.2.2.2.2.2.2.2 hb70 (blk_lt HO69.out.2.2.2.2.2.2.2.2.2)⟩)
              clear hb70
              refine hK' _ _ (HO70.out.1) ?_
              clear hK' K'
              go_simp
              refine wpAnyH_one (i := 9) (by kernel_rfl) rfl (by kernel_rfl) (fun K' hK' => ?_)
              refine wp_store_row 26 (.tmp 7) (.tmp 25) (by kernel_rfl) WO62.heap.size (bV (dgL sA)) (by kernel_rfl) (by kernel_rfl) 26 _ HO70.out.2.2.2.2.2.2.2.2.2 (sz_in (dgL_len _)) (sz_eq zL_len (dgL_len _)) (bV_one _) ?_
              have hf5 := setRow_heap _ WO62.heap.size _ (bV (dgL sA)) 26 (0, 0) HO70.out.2.2.2.2.2.2.2.2.2
              have hf6 := (setRow_other WO70 WO62.heap.size WO36.heap.size (bV (dgL sA)) HO70.out.2.2.2.2.2.2.2.1).trans HO70.out.2.2.2.2.2.1
              have hbw := below_setRow HO70.out.1 HO70.out.2.2.2.2.2.2.2.2.1 (bV (dgL sA))
              generalize WO70.setRow WO62.heap.size (bV (dgL sA)) = WZ at *
              refine hK' _ _ (hbw) ?_
              clear hK' K'
              go_simp
              refine wpAnyH_one (i := 10) (by kernel_rfl) rfl (by kernel_rfl) (fun K' hK' => ?_)
              refine wp_store_row 26 (.tmp 8) (.tmp 28) (by kernel_rfl) WO36.heap.size (bV (dgL sB)) (by kernel_rfl) (by kernel_rfl) 26 _ hf6 (sz_in (dgL_len _)) (sz_eq zL_len (dgL_len _)) (bV_one _) ?_
              have hg6 := setRow_heap _ WO36.heap.size _ (bV (dgL sB)) 26 (0, 0) hf6
              have hg5 := (setRow_other WZ WO36.heap.size WO62.heap.size (bV (dgL sB)) (Ne.symm HO70.out.2.2.2.2.2.2.2.1)).trans hf5
              have hbw2 := below_setRow hbw HO70.out.2.2.2.2.1 (bV (dgL sB))
              have HM := Lib.hid (show TwoD (dgL sA) (dgL sB) wr (.pointer (some ⟨WO62.heap.size, 0, none⟩)) (.pointer (some ⟨WO36.heap.size, 0, none⟩)) (WZ.setRow WO36.heap.size (bV (dgL sB))) from ⟨_, _, rfl, rfl, hg5, hg6, hbw2, HO70.out.2.2.2.2.2.2.2.2.1, HO70.out.2.2.2.2.1, (Ne.symm HO70.out.2.2.2.2.2.2.2.1)⟩)
              generalize WZ.setRow WO36.heap.size (bV (dgL sB)) = WY at *
              clear hg6 hg5 hf5 hf6 hbw
              refine hK' _ _ (hbw2) ?_
              clear hK' K'
              go_simp
              refine wpAnyH_done (by kernel_rfl) ?_ _
              refine NoPanic.normal ?_
              go_simp
              go_wp2_with fail
              go_meet
              case rel => exact HM.out
        · go_simp
          rw [zL_val]
          have HO71 := Lib.hid (show Below wr.heap.size wr _ ∧ wr.heap.size ≤ wr.heap.size ∧ _ from ⟨((Below.refl wr.heap.size wr).alloc (Nat.le_refl _) (.cells (bV zL) 26)).drew, Nat.le_refl _, blk_drew (blk_new wr (.cells (bV zL) 26))⟩)
          generalize (wr.alloc (.cells (bV zL) 26)).drew = WO71 at *
          refine hK' _ _ (HO71.out.1) ?_
          clear hK' K'
          go_simp
          refine wpAnyH_three (i := 3) (j := 5) (k := 8) (by kernel_rfl) rfl rfl rfl (by kernel_rfl) (by kernel_rfl) (by kernel_rfl) (fun K' hK' => ?_) (fun K' hK' => ?_) (fun K' hK' => ?_)
          · go_simp
            refine (tree_any k (by omega) (some ⟨lb, 0, none⟩) lb 0 lcap (L.take k) _ ((HR.out.2.1.take hkm hk0).below (HO71.out.1) (Nat.le_refl _)) (by omega) (HR.out.2.2.2.below (HO71.out.1))).mono ?_
            rintro e WO72 ⟨rfl, hb72⟩
            rw [bV_dg, ← HS.out.1]
            have HO72 := Lib.hid (show Below wr.heap.size wr WO72 ∧ _ ∧ _ from ⟨below_after HO71.out.1 hb72 HO71.out.1.size, HO71.out.2.1, blk_below HO71.out.2.2 hb72 (blk_lt HO71.out.2.2)⟩)
            clear hb72
            refine hK' _ _ (HO72.out.1) ?_
            clear hK' K'
            go_simp
            refine wpAnyH_two (i := 5) (j := 8) (by kernel_rfl) rfl rfl (by kernel_rfl) (by kernel_rfl) (fun K' hK' => ?_) (fun K' hK' => ?_)
            · refine wp_build_D (.tmp 26) rfl F hF (by kernel_rfl) ?_
              have HO73 := Lib.hid (show Below wr.heap.size wr _ ∧ wr.heap.size ≤ wr.heap.size ∧ _ ∧ wr.heap.size ≠ WO72.heap.size ∧ wr.heap.size ≤ WO72.heap.size ∧ _ from ⟨HO72.out.1.alloc HO72.out.1.size (.cells (bV F) 26), HO72.out.2.1, blk_alloc HO72.out.2.2 (.cells (bV F) 26), other_block HO72.out.2.2 (Nat.le_refl _), HO72.out.1.size, blk_new WO72 (.cells (bV F) 26)⟩)
              generalize WO72.alloc (.cells (bV F) 26) = WO73 at *
              refine hK' _ _ (HO73.out.1) ?_
              clear hK' K'
              go_simp
              refine wpAnyH_two (i := 6) (j := 8) (by kernel_rfl) rfl rfl (by kernel_rfl) (by kernel_rfl) (fun K' hK' => ?_) (fun K' hK' => ?_)
              · go_simp
                refine (tree_any 1 (by omega) (some ⟨WO72.heap.size, 0, none⟩) (WO72.heap.size) 0 1 [F] _ (oneR hF (HO73.out.2.2.2.2.2)) (by omega) (HR.out.2.2.2.below (HO73.out.1))).mono ?_
                rintro e WO74 ⟨rfl, hb74⟩
                rw [bV_dg, ← HS.out.2.1]
                have HO74 := Lib.hid (show Below wr.heap.size wr WO74 ∧ _ ∧ _ ∧ _ ∧ _ ∧ _ from ⟨below_after HO73.out.1 hb74 HO73.out.1.size, HO73.out.2.1, blk_below HO73.out.2.2.1 hb74 (blk_lt HO73.out.2.2.1), HO73.out.2.2.2.1, HO73.out.2.2.2.2.1, blk_below HO73.out.2.2.2.2.2 hb74 (blk_lt HO73.out.2.2.2.2.2)⟩)
                clear hb74
                refine hK' _ _ (HO74.out.1) ?_
                clear hK' K'
                go_simp
                refine wpAnyH_one (i := 8) (by kernel_rfl) rfl (by kernel_rfl) (fun K' hK' => ?_)
                go_simp
                rw [zL_val]
                have HO75 := Lib.hid (show Below wr.heap.size wr _ ∧ wr.heap.size ≤ wr.heap.size ∧ _ ∧ wr.heap.size ≠ WO72.heap.size ∧ wr.heap.size ≤ WO72.heap.size ∧ _ ∧ wr.heap.size ≠ WO74.heap.size ∧ WO72.heap.size ≠ WO74.heap.size ∧ wr.heap.size ≤ WO74.heap.size ∧ _ from ⟨HO74.out.1.alloc HO74.out.1.size (.cells (bV zL) 26), HO74.out.2.1, blk_alloc HO74.out.2.2.1 (.cells (bV zL) 26), HO74.out.2.2.2.1, HO74.out.2.2.2.2.1, blk_alloc HO74.out.2.2.2.2.2 (.cells (bV zL) 26), other_block HO74.out.2.2.1 (Nat.le_refl _), other_block HO74.out.2.2.2.2.2 (Nat.le_refl _), HO74.out.1.size, blk_new WO74 (.cells (bV zL) 26)⟩)
                generalize WO74.alloc (.cells (bV zL) 26) = WO75 at *
                refine hK' _ _ (HO75.out.1) ?_
                clear hK' K'
                go_simp
                refine wpAnyH_one (i := 9) (by kernel_rfl) rfl (by kernel_rfl) (fun K' hK' => ?_)
                refine wp_store_row 26 (.tmp 7) (.tmp 25) (by kernel_rfl) wr.heap.size (bV (dgL sA)) (by kernel_rfl) (by kernel_rfl) 26 _ HO75.out.2.2.1 (sz_in (dgL_len _)) (sz_eq zL_len (dgL_len _)) (bV_one _) ?_
                have hf5 := setRow_heap _ wr.heap.size _ (bV (dgL sA)) 26 (0, 0) HO75.out.2.2.1
                have hf6 := (setRow_other WO75 wr.heap.size WO74.heap.size (bV (dgL sA)) (Ne.symm HO75.out.2.2.2.2.2.2.1)).trans HO75.out.2.2.2.2.2.2.2.2.2
                have hbw := below_setRow HO75.out.1 HO75.out.2.1 (bV (dgL sA))
                generalize WO75.setRow wr.heap.size (bV (dgL sA)) = WZ at *
                refine hK' _ _ (hbw) ?_
                clear hK' K'
                go_simp
                refine wpAnyH_one (i := 10) (by kernel_rfl) rfl (by kernel_rfl) (fun K' hK' => ?_)
                refine wp_store_row 26 (.tmp 8) (.tmp 28) (by kernel_rfl) WO74.heap.size (bV (dgL sB)) (by kernel_rfl) (by kernel_rfl) 26 _ hf6 (sz_in (dgL_len _)) (sz_eq zL_len (dgL_len _)) (bV_one _) ?_
                have hg6 := setRow_heap _ WO74.heap.size _ (bV (dgL sB)) 26 (0, 0) hf6
                have hg5 := (setRow_other WZ WO74.heap.size wr.heap.size (bV (dgL sB)) HO75.out.2.2.2.2.2.2.1).trans hf5
                have hbw2 := below_setRow hbw HO75.out.2.2.2.2.2.2.2.2.1 (bV (dgL sB))
                have HM := Lib.hid (show TwoD (dgL sA) (dgL sB) wr (.pointer (some ⟨wr.heap.size, 0, none⟩)) (.pointer (some ⟨WO74.heap.size, 0, none⟩)) (WZ.setRow WO74.heap.size (bV (dgL sB))) from ⟨_, _, rfl, rfl, hg5, hg6, hbw2, HO75.out.2.1, HO75.out.2.2.2.2.2.2.2.2.1, HO75.out.2.2.2.2.2.2.1⟩)
                generalize WZ.setRow WO74.heap.size (bV (dgL sB)) = WY at *
                clear hg6 hg5 hf5 hf6 hbw
                refine hK' _ _ (hbw2) ?_
                clear hK' K'
                go_simp
                refine wpAnyH_done (by kernel_rfl) ?_ _
                refine NoPanic.normal ?_
                go_simp
                go_wp2_with fail
                go_meet
                case rel => exact HM.out
              · go_simp
                rw [zL_val]
                have HO76 := Lib.hid (show Below wr.heap.size wr _ ∧ wr.heap.size ≤ wr.heap.size ∧ _ ∧ wr.heap.size ≠ WO72.heap.size ∧ wr.heap.size ≤ WO72.heap.size ∧ _ ∧ wr.heap.size ≠ WO73.heap.size ∧ WO72.heap.size ≠ WO73.heap.size ∧ wr.heap.size ≤ WO73.heap.size ∧ _ from ⟨HO73.out.1.alloc HO73.out.1.size (.cells (bV zL) 26), HO73.out.2.1, blk_alloc HO73.out.2.2.1 (.cells (bV zL) 26), HO73.out.2.2.2.1, HO73.out.2.2.2.2.1, blk_alloc HO73.out.2.2.2.2.2 (.cells (bV zL) 26), other_block HO73.out.2.2.1 (Nat.le_refl _), other_block HO73.out.2.2.2.2.2 (Nat.le_refl _), HO73.out.1.size, blk_new WO73 (.cells (bV zL) 26)⟩)
                generalize WO73.alloc (.cells (bV zL) 26) = WO76 at *
                refine hK' _ _ (HO76.out.1) ?_
                clear hK' K'
                go_simp
                refine wpAnyH_one (i := 6) (by kernel_rfl) rfl (by kernel_rfl) (fun K' hK' => ?_)
                go_simp
                refine (tree_any 1 (by omega) (some ⟨WO72.heap.size, 0, none⟩) (WO72.heap.size) 0 1 [F] _ (oneR hF (HO76.out.2.2.2.2.2.1)) (by omega) (HR.out.2.2.2.below (HO76.out.1))).mono ?_
                rintro e WO77 ⟨rfl, hb77⟩
                rw [bV_dg, ← HS.out.2.1]
                have HO77 := Lib.hid (show Below wr.heap.size wr WO77 ∧ _ ∧ _ ∧ _ ∧ _ ∧ _ ∧ _ ∧ _ ∧ _ ∧ _ from ⟨below_after HO76.out.1 hb77 HO76.out.1.size, HO76.out.2.1, blk_below HO76.out.2.2.1 hb77 (blk_lt HO76.out.2.2.1), HO76.out.2.2.2.1, HO76.out.2.2.2.2.1, blk_below HO76.out.2.2.2.2.2.1 hb77 (blk_lt HO76.out.2.2.2.2.2.1), HO76.out.2.2.2.2.2.2.1, HO76.out.2.2.2.2.2.2.2.1, HO76.out.2.2.2.2.2.2.2.2.1, blk_below HO76.out.2.2.2.2.2.2.2.2.2 hb77 (blk_lt HO76.out.2.2.2.2.2.2.2.2.2)⟩)
                clear hb77
                refine hK' _ _ (HO77.out.1) ?_
                clear hK' K'
                go_simp
                refine wpAnyH_one (i := 9) (by kernel_rfl) rfl (by kernel_rfl) (fun K' hK' => ?_)
                refine wp_store_row 26 (.tmp 7) (.tmp 25) (by kernel_rfl) wr.heap.size (bV (dgL sA)) (by kernel_rfl) (by kernel_rfl) 26 _ HO77.out.2.2.1 (sz_in (dgL_len _)) (sz_eq zL_len (dgL_len _)) (bV_one _) ?_
                have hf5 := setRow_heap _ wr.heap.size _ (bV (dgL sA)) 26 (0, 0) HO77.out.2.2.1
                have hf6 := (setRow_other WO77 wr.heap.size WO73.heap.size (bV (dgL sA)) (Ne.symm HO77.out.2.2.2.2.2.2.1)).trans HO77.out.2.2.2.2.2.2.2.2.2
                have hbw := below_setRow HO77.out.1 HO77.out.2.1 (bV (dgL sA))
                generalize WO77.setRow wr.heap.size (bV (dgL sA)) = WZ at *
                refine hK' _ _ (hbw) ?_
                clear hK' K'
                go_simp
                refine wpAnyH_one (i := 10) (by kernel_rfl) rfl (by kernel_rfl) (fun K' hK' => ?_)
                refine wp_store_row 26 (.tmp 8) (.tmp 28) (by kernel_rfl) WO73.heap.size (bV (dgL sB)) (by kernel_rfl) (by kernel_rfl) 26 _ hf6 (sz_in (dgL_len _)) (sz_eq zL_len (dgL_len _)) (bV_one _) ?_
                have hg6 := setRow_heap _ WO73.heap.size _ (bV (dgL sB)) 26 (0, 0) hf6
                have hg5 := (setRow_other WZ WO73.heap.size wr.heap.size (bV (dgL sB)) HO77.out.2.2.2.2.2.2.1).trans hf5
                have hbw2 := below_setRow hbw HO77.out.2.2.2.2.2.2.2.2.1 (bV (dgL sB))
                have HM := Lib.hid (show TwoD (dgL sA) (dgL sB) wr (.pointer (some ⟨wr.heap.size, 0, none⟩)) (.pointer (some ⟨WO73.heap.size, 0, none⟩)) (WZ.setRow WO73.heap.size (bV (dgL sB))) from ⟨_, _, rfl, rfl, hg5, hg6, hbw2, HO77.out.2.1, HO77.out.2.2.2.2.2.2.2.2.1, HO77.out.2.2.2.2.2.2.1⟩)
                generalize WZ.setRow WO73.heap.size (bV (dgL sB)) = WY at *
                clear hg6 hg5 hf5 hf6 hbw
                refine hK' _ _ (hbw2) ?_
                clear hK' K'
                go_simp
                refine wpAnyH_done (by kernel_rfl) ?_ _
                refine NoPanic.normal ?_
                go_simp
                go_wp2_with fail
                go_meet
                case rel => exact HM.out
            · go_simp
              rw [zL_val]
              have HO78 := Lib.hid (show Below wr.heap.size wr _ ∧ wr.heap.size ≤ wr.heap.size ∧ _ ∧ wr.heap.size ≠ WO72.heap.size ∧ wr.heap.size ≤ WO72.heap.size ∧ _ from ⟨HO72.out.1.alloc HO72.out.1.size (.cells (bV zL) 26), HO72.out.2.1, blk_alloc HO72.out.2.2 (.cells (bV zL) 26), other_block HO72.out.2.2 (Nat.le_refl _), HO72.out.1.size, blk_new WO72 (.cells (bV zL) 26)⟩)
              generalize WO72.alloc (.cells (bV zL) 26) = WO78 at *
              refine hK' _ _ (HO78.out.1) ?_
              clear hK' K'
              go_simp
              refine wpAnyH_one (i := 5) (by kernel_rfl) rfl (by kernel_rfl) (fun K' hK' => ?_)
              refine wp_build_D (.tmp 26) rfl F hF (by kernel_rfl) ?_
              have HO79 := Lib.hid (show Below wr.heap.size wr _ ∧ wr.heap.size ≤ wr.heap.size ∧ _ ∧ wr.heap.size ≠ WO72.heap.size ∧ wr.heap.size ≤ WO72.heap.size ∧ _ ∧ wr.heap.size ≠ WO78.heap.size ∧ WO72.heap.size ≠ WO78.heap.size ∧ wr.heap.size ≤ WO78.heap.size ∧ _ from ⟨HO78.out.1.alloc HO78.out.1.size (.cells (bV F) 26), HO78.out.2.1, blk_alloc HO78.out.2.2.1 (.cells (bV F) 26), HO78.out.2.2.2.1, HO78.out.2.2.2.2.1, blk_alloc HO78.out.2.2.2.2.2 (.cells (bV F) 26), other_block HO78.out.2.2.1 (Nat.le_refl _), other_block HO78.out.2.2.2.2.2 (Nat.le_refl _), HO78.out.1.size, blk_new WO78 (.cells (bV F) 26)⟩)
              generalize WO78.alloc (.cells (bV F) 26) = WO79 at *
              refine hK' _ _ (HO79.out.1) ?_
              clear hK' K'
              go_simp
              refine wpAnyH_one (i := 6) (by kernel_rfl) rfl (by kernel_rfl) (fun K' hK' => ?_)
              go_simp
              refine (tree_any 1 (by omega) (some ⟨WO78.heap.size, 0, none⟩) (WO78.heap.size) 0 1 [F] _ (oneR hF (HO79.out.2.2.2.2.2.2.2.2.2)) (by omega) (HR.out.2.2.2.below (HO79.out.1))).mono ?_
              rintro e WO80 ⟨rfl, hb80⟩
              rw [bV_dg, ← HS.out.2.1]
              have HO80 := Lib.hid (show Below wr.heap.size wr WO80 ∧ _ ∧ _ ∧ _ ∧ _ ∧ _ ∧ _ ∧ _ ∧ _ ∧ _ from ⟨below_after HO79.out.1 hb80 HO79.out.1.size, HO79.out.2.1, blk_below HO79.out.2.2.1 hb80 (blk_lt HO79.out.2.2.1), HO79.out.2.2.2.1, HO79.out.2.2.2.2.1, blk_below HO79.out.2.2.2.2.2.1 hb80 (blk_lt HO79.out.2.2.2.2.2.1), HO79.out.2.2.2.2.2.2.1, HO79.out.2.2.2.2.2.2.2.1, HO79.out.2.2.2.2.2.2.2.2.1, blk_below HO79.out.2.2.2.2.2.2.2.2.2 hb80 (blk_lt HO79.out.2.2.2.2.2.2.2.2.2)⟩)
              clear hb80
              refine hK' _ _ (HO80.out.1) ?_
              clear hK' K'
              go_simp
              refine wpAnyH_one (i := 9) (by kernel_rfl) rfl (by kernel_rfl) (fun K' hK' => ?_)
              refine wp_store_row 26 (.tmp 7) (.tmp 25) (by kernel_rfl) wr.heap.size (bV (dgL sA)) (by kernel_rfl) (by kernel_rfl) 26 _ HO80.out.2.2.1 (sz_in (dgL_len _)) (sz_eq zL_len (dgL_len _)) (bV_one _) ?_
              have hf5 := setRow_heap _ wr.heap.size _ (bV (dgL sA)) 26 (0, 0) HO80.out.2.2.1
              have hf6 := (setRow_other WO80 wr.heap.size WO72.heap.size (bV (dgL sA)) (Ne.symm HO80.out.2.2.2.1)).trans HO80.out.2.2.2.2.2.1
              have hbw := below_setRow HO80.out.1 HO80.out.2.1 (bV (dgL sA))
              generalize WO80.setRow wr.heap.size (bV (dgL sA)) = WZ at *
              refine hK' _ _ (hbw) ?_
              clear hK' K'
              go_simp
              refine wpAnyH_one (i := 10) (by kernel_rfl) rfl (by kernel_rfl) (fun K' hK' => ?_)
              refine wp_store_row 26 (.tmp 8) (.tmp 28) (by kernel_rfl) WO72.heap.size (bV (dgL sB)) (by kernel_rfl) (by kernel_rfl) 26 _ hf6 (sz_in (dgL_len _)) (sz_eq zL_len (dgL_len _)) (bV_one _) ?_
              have hg6 := setRow_heap _ WO72.heap.size _ (bV (dgL sB)) 26 (0, 0) hf6
              have hg5 := (setRow_other WZ WO72.heap.size wr.heap.size (bV (dgL sB)) HO80.out.2.2.2.1).trans hf5
              have hbw2 := below_setRow hbw HO80.out.2.2.2.2.1 (bV (dgL sB))
              have HM := Lib.hid (show TwoD (dgL sA) (dgL sB) wr (.pointer (some ⟨wr.heap.size, 0, none⟩)) (.pointer (some ⟨WO72.heap.size, 0, none⟩)) (WZ.setRow WO72.heap.size (bV (dgL sB))) from ⟨_, _, rfl, rfl, hg5, hg6, hbw2, HO80.out.2.1, HO80.out.2.2.2.2.1, HO80.out.2.2.2.1⟩)
              generalize WZ.setRow WO72.heap.size (bV (dgL sB)) = WY at *
              clear hg6 hg5 hf5 hf6 hbw
              refine hK' _ _ (hbw2) ?_
              clear hK' K'
              go_simp
              refine wpAnyH_done (by kernel_rfl) ?_ _
              refine NoPanic.normal ?_
              go_simp
              go_wp2_with fail
              go_meet
              case rel => exact HM.out
          · refine wp_build_D (.tmp 26) rfl F hF (by kernel_rfl) ?_
            have HO81 := Lib.hid (show Below wr.heap.size wr _ ∧ wr.heap.size ≤ wr.heap.size ∧ _ ∧ wr.heap.size ≠ WO71.heap.size ∧ wr.heap.size ≤ WO71.heap.size ∧ _ from ⟨HO71.out.1.alloc HO71.out.1.size (.cells (bV F) 26), HO71.out.2.1, blk_alloc HO71.out.2.2 (.cells (bV F) 26), other_block HO71.out.2.2 (Nat.le_refl _), HO71.out.1.size, blk_new WO71 (.cells (bV F) 26)⟩)
            generalize WO71.alloc (.cells (bV F) 26) = WO81 at *
            refine hK' _ _ (HO81.out.1) ?_
            clear hK' K'
            go_simp
            refine wpAnyH_two (i := 3) (j := 8) (by kernel_rfl) rfl rfl (by kernel_rfl) (by kernel_rfl) (fun K' hK' => ?_) (fun K' hK' => ?_)
            · go_simp
              refine (tree_any k (by omega) (some ⟨lb, 0, none⟩) lb 0 lcap (L.take k) _ ((HR.out.2.1.take hkm hk0).below (HO81.out.1) (Nat.le_refl _)) (by omega) (HR.out.2.2.2.below (HO81.out.1))).mono ?_
              rintro e WO82 ⟨rfl, hb82⟩
              rw [bV_dg, ← HS.out.1]
              have HO82 := Lib.hid (show Below wr.heap.size wr WO82 ∧ _ ∧ _ ∧ _ ∧ _ ∧ _ from ⟨below_after HO81.out.1 hb82 HO81.out.1.size, HO81.out.2.1, blk_below HO81.out.2.2.1 hb82 (blk_lt HO81.out.2.2.1), HO81.out.2.2.2.1, HO81.out.2.2.2.2.1, blk_below HO81.out.2.2.2.2.2 hb82 (blk_lt HO81.out.2.2.2.2.2)⟩)
              clear hb82
              refine hK' _ _ (HO82.out.1) ?_
              clear hK' K'
              go_simp
              refine wpAnyH_two (i := 6) (j := 8) (by kernel_rfl) rfl rfl (by kernel_rfl) (by kernel_rfl) (fun K' hK' => ?_) (fun K' hK' => ?_)
              · go_simp
                refine (tree_any 1 (by omega) (some ⟨WO71.heap.size, 0, none⟩) (WO71.heap.size) 0 1 [F] _ (oneR hF (HO82.out.2.2.2.2.2)) (by omega) (HR.out.2.2.2.below (HO82.out.1))).mono ?_
                rintro e WO83 ⟨rfl, hb83⟩
                rw [bV_dg, ← HS.out.2.1]
                have HO83 := Lib.hid (show Below wr.heap.size wr WO83 ∧ _ ∧ _ ∧ _ ∧ _ ∧ _ from ⟨below_after HO82.out.1 hb83 HO82.out.1.size, HO82.out.2.1, blk_below HO82.out.2.2.1 hb83 (blk_lt HO82.out.2.2.1), HO82.out.2.2.2.1, HO82.out.2.2.2.2.1, blk_below HO82.out.2.2.2.2.2 hb83 (blk_lt HO82.out.2.2.2.2.2)⟩)
                clear hb83
                refine hK' _ _ (HO83.out.1) ?_
                clear hK' K'
                go_simp
                refine wpAnyH_one (i := 8) (by kernel_rfl) rfl (by kernel_rfl) (fun K' hK' => ?_)
                go_simp
                rw [zL_val]
                have HO84 := Lib.hid (show Below wr.heap.size wr _ ∧ wr.heap.size ≤ wr.heap.size ∧ _ ∧ wr.heap.size ≠ WO71.heap.size ∧ wr.heap.size ≤ WO71.heap.size ∧ _ ∧ wr.heap.size ≠ WO83.heap.size ∧ WO71.heap.size ≠ WO83.heap.size ∧ wr.heap.size ≤ WO83.heap.size ∧ _ from ⟨HO83.out.1.alloc HO83.out.1.size (.cells (bV zL) 26), HO83.out.2.1, blk_alloc HO83.out.2.2.1 (.cells (bV zL) 26), HO83.out.2.2.2.1, HO83.out.2.2.2.2.1, blk_alloc HO83.out.2.2.2.2.2 (.cells (bV zL) 26), other_block HO83.out.2.2.1 (Nat.le_refl _), other_block HO83.out.2.2.2.2.2 (Nat.le_refl _), HO83.out.1.size, blk_new WO83 (.cells (bV zL) 26)⟩)
                generalize WO83.alloc (.cells (bV zL) 26) = WO84 at *
                refine hK' _ _ (HO84.out.1) ?_
                clear hK' K'
                go_simp
                refine wpAnyH_one (i := 9) (by kernel_rfl) rfl (by kernel_rfl) (fun K' hK' => ?_)
                refine wp_store_row 26 (.tmp 7) (.tmp 25) (by kernel_rfl) wr.heap.size (bV (dgL sA)) (by kernel_rfl) (by kernel_rfl) 26 _ HO84.out.2.2.1 (sz_in (dgL_len _)) (sz_eq zL_len (dgL_len _)) (bV_one _) ?_
                have hf5 := setRow_heap _ wr.heap.size _ (bV (dgL sA)) 26 (0, 0) HO84.out.2.2.1
                have hf6 := (setRow_other WO84 wr.heap.size WO83.heap.size (bV (dgL sA)) (Ne.symm HO84.out.2.2.2.2.2.2.1)).trans HO84.out.2.2.2.2.2.2.2.2.2
                have hbw := below_setRow HO84.out.1 HO84.out.2.1 (bV (dgL sA))
                generalize WO84.setRow wr.heap.size (bV (dgL sA)) = WZ at *
                refine hK' _ _ (hbw) ?_
                clear hK' K'
                go_simp
                refine wpAnyH_one (i := 10) (by kernel_rfl) rfl (by kernel_rfl) (fun K' hK' => ?_)
                refine wp_store_row 26 (.tmp 8) (.tmp 28) (by kernel_rfl) WO83.heap.size (bV (dgL sB)) (by kernel_rfl) (by kernel_rfl) 26 _ hf6 (sz_in (dgL_len _)) (sz_eq zL_len (dgL_len _)) (bV_one _) ?_
                have hg6 := setRow_heap _ WO83.heap.size _ (bV (dgL sB)) 26 (0, 0) hf6
                have hg5 := (setRow_other WZ WO83.heap.size wr.heap.size (bV (dgL sB)) HO84.out.2.2.2.2.2.2.1).trans hf5
                have hbw2 := below_setRow hbw HO84.out.2.2.2.2.2.2.2.2.1 (bV (dgL sB))
                have HM := Lib.hid (show TwoD (dgL sA) (dgL sB) wr (.pointer (some ⟨wr.heap.size, 0, none⟩)) (.pointer (some ⟨WO83.heap.size, 0, none⟩)) (WZ.setRow WO83.heap.size (bV (dgL sB))) from ⟨_, _, rfl, rfl, hg5, hg6, hbw2, HO84.out.2.1, HO84.out.2.2.2.2.2.2.2.2.1, HO84.out.2.2.2.2.2.2.1⟩)
                generalize WZ.setRow WO83.heap.size (bV (dgL sB)) = WY at *
                clear hg6 hg5 hf5 hf6 hbw
                refine hK' _ _ (hbw2) ?_
                clear hK' K'
                go_simp
                refine wpAnyH_done (by kernel_rfl) ?_ _
                refine NoPanic.normal ?_
                go_simp
                go_wp2_with fail
                go_meet
                case rel => exact HM.out
              · go_simp
                rw [zL_val]
                have HO85 := Lib.hid (show Below wr.heap.size wr _ ∧ wr.heap.size ≤ wr.heap.size ∧ _ ∧ wr.heap.size ≠ WO71.heap.size ∧ wr.heap.size ≤ WO71.heap.size ∧ _ ∧ wr.heap.size ≠ WO82.heap.size ∧ WO71.heap.size ≠ WO82.heap.size ∧ wr.heap.size ≤ WO82.heap.size ∧ _ from ⟨HO82.out.1.alloc HO82.out.1.size (.cells (bV zL) 26), HO82.out.2.1, blk_alloc HO82.out.2.2.1 (.cells (bV zL) 26), HO82.out.2.2.2.1, HO82.out.2.2.2.2.1, blk_alloc HO82.out.2.2.2.2.2 (.cells (bV zL) 26), other_block HO82.out.2.2.1 (Nat.le_refl _), other_block HO82.out.2.2.2.2.2 (Nat.le_refl _), HO82.out.1.size, blk_new WO82 (.cells (bV zL) 26)⟩)
                generalize WO82.alloc (.cells (bV zL) 26) = WO85 at *
                refine hK' _ _ (HO85.out.1) ?_
                clear hK' K'
                go_simp
                refine wpAnyH_one (i := 6) (by kernel_rfl) rfl (by kernel_rfl) (fun K' hK' => ?_)
                go_simp
                refine (tree_any 1 (by omega) (some ⟨WO71.heap.size, 0, none⟩) (WO71.heap.size) 0 1 [F] _ (oneR hF (HO85.out.2.2.2.2.2.1)) (by omega) (HR.out.2.2.2.below (HO85.out.1))).mono ?_
                rintro e WO86 ⟨rfl, hb86⟩
                rw [bV_dg, ← HS.out.2.1]
                have HO86 := Lib.hid (show Below wr.heap.size wr WO86 ∧ _ ∧ _ ∧ _ ∧ _ ∧ _ ∧ _ ∧ _ ∧ _ ∧ _ from ⟨below_after HO85.out.1 hb86 HO85.out.1.size, HO85.out.2.1, blk_below HO85.out.2.2.1 hb86 (blk_lt HO85.out.2.2.1), HO85.out.2.2.2.1, HO85.out.2.2.2.2.1, blk_below HO85.out.2.2.2.2.2.1 hb86 (blk_lt HO85.out.2.2.2.2.2.1), HO85.out.2.2.2.2.2.2.1, HO85.out.2.2.2.2.2.2.2.1, HO85.out.2.2.2.2.2.2.2.2.1, blk_below HO85.out.2.2.2.2.2.2.2.2.2 hb86 (blk_lt HO85.out.2.2.2.2.2.2.2.2.2)⟩)
                clear hb86
                refine hK' _ _ (HO86.out.1) ?_
                clear hK' K'
                go_simp
                refine wpAnyH_one (i := 9) (by kernel_rfl) rfl (by kernel_rfl) (fun K' hK' => ?_)
                refine wp_store_row 26 (.tmp 7) (.tmp 25) (by kernel_rfl) wr.heap.size (bV (dgL sA)) (by kernel_rfl) (by kernel_rfl) 26 _ HO86.out.2.2.1 (sz_in (dgL_len _)) (sz_eq zL_len (dgL_len _)) (bV_one _) ?_
                have hf5 := setRow_heap _ wr.heap.size _ (bV (dgL sA)) 26 (0, 0) HO86.out.2.2.1
                have hf6 := (setRow_other WO86 wr.heap.size WO82.heap.size (bV (dgL sA)) (Ne.symm HO86.out.2.2.2.2.2.2.1)).trans HO86.out.2.2.2.2.2.2.2.2.2
                have hbw := below_setRow HO86.out.1 HO86.out.2.1 (bV (dgL sA))
                generalize WO86.setRow wr.heap.size (bV (dgL sA)) = WZ at *
                refine hK' _ _ (hbw) ?_
                clear hK' K'
                go_simp
                refine wpAnyH_one (i := 10) (by kernel_rfl) rfl (by kernel_rfl) (fun K' hK' => ?_)
                refine wp_store_row 26 (.tmp 8) (.tmp 28) (by kernel_rfl) WO82.heap.size (bV (dgL sB)) (by kernel_rfl) (by kernel_rfl) 26 _ hf6 (sz_in (dgL_len _)) (sz_eq zL_len (dgL_len _)) (bV_one _) ?_
                have hg6 := setRow_heap _ WO82.heap.size _ (bV (dgL sB)) 26 (0, 0) hf6
                have hg5 := (setRow_other WZ WO82.heap.size wr.heap.size (bV (dgL sB)) HO86.out.2.2.2.2.2.2.1).trans hf5
                have hbw2 := below_setRow hbw HO86.out.2.2.2.2.2.2.2.2.1 (bV (dgL sB))
                have HM := Lib.hid (show TwoD (dgL sA) (dgL sB) wr (.pointer (some ⟨wr.heap.size, 0, none⟩)) (.pointer (some ⟨WO82.heap.size, 0, none⟩)) (WZ.setRow WO82.heap.size (bV (dgL sB))) from ⟨_, _, rfl, rfl, hg5, hg6, hbw2, HO86.out.2.1, HO86.out.2.2.2.2.2.2.2.2.1, HO86.out.2.2.2.2.2.2.1⟩)
                generalize WZ.setRow WO82.heap.size (bV (dgL sB)) = WY at *
                clear hg6 hg5 hf5 hf6 hbw
                refine hK' _ _ (hbw2) ?_
                clear hK' K'
                go_simp
                refine wpAnyH_done (by kernel_rfl) ?_ _
                refine NoPanic.normal ?_
                go_simp
                go_wp2_with fail
                go_meet
                case rel => exact HM.out
            · go_simp
              rw [zL_val]
              have HO87 := Lib.hid (show Below wr.heap.size wr _ ∧ wr.heap.size ≤ wr.heap.size ∧ _ ∧ wr.heap.size ≠ WO71.heap.size ∧ wr.heap.size ≤ WO71.heap.size ∧ _ ∧ wr.heap.size ≠ WO81.heap.size ∧ WO71.heap.size ≠ WO81.heap.size ∧ wr.heap.size ≤ WO81.heap.size ∧ _ from ⟨HO81.out.1.alloc HO81.out.1.size (.cells (bV zL) 26), HO81.out.2.1, blk_alloc HO81.out.2.2.1 (.cells (bV zL) 26), HO81.out.2.2.2.1, HO81.out.2.2.2.2.1, blk_alloc HO81.out.2.2.2.2.2 (.cells (bV zL) 26), other_block HO81.out.2.2.1 (Nat.le_refl _), other_block HO81.out.2.2.2.2.2 (Nat.le_refl _), HO81.out.1.size, blk_new WO81 (.cells (bV zL) 26)⟩)
              generalize WO81.alloc (.cells (bV zL) 26) = WO87 at *
              refine hK' _ _ (HO87.out.1) ?_
              clear hK' K'
              go_simp
              refine wpAnyH_one (i := 3) (by kernel_rfl) rfl (by kernel_rfl) (fun K' hK' => ?_)
              go_simp
              refine (tree_any k (by omega) (some ⟨lb, 0, none⟩) lb 0 lcap (L.take k) _ ((HR.out.2.1.take hkm hk0).below (HO87.out.1) (Nat.le_refl _)) (by omega) (HR.out.2.2.2.below (HO87.out.1))).mono ?_
              rintro e WO88 ⟨rfl, hb88⟩
              rw [bV_dg, ← HS.out.1]
              have HO88 := Lib.hid (show Below wr.heap.size wr WO88 ∧ _ ∧ _ ∧ _ ∧ _ ∧ _ ∧ _ ∧ _ ∧ _ ∧ _ from ⟨below_after HO87.out.1 hb88 HO87.out.1.size, HO87.out.2.1, blk_below HO87.out.2.2.1 hb88 (blk_lt HO87.out.2.2.1), HO87.out.2.2.2.1, HO87.out.2.2.2.2.1, blk_below HO87.out.2.2.2.2.2.1 hb88 (blk_lt HO87.out.2.2.2.2.2.1), HO87.out.2.2.2.2.2.2.1, HO87.out.2.2.2.2.2.2.2.1, HO87.out.2.2.2.2.2.2.2.2.1, blk_below HO87.out.2.2.2.2.2.2.2.2.2 hb88 (blk_lt HO87.out.2.2.2.2.2.2.2.2.2)⟩)
              clear hb88
              refine hK' _ _ (HO88.out.1) ?_
              clear hK' K'
              go_simp
              refine wpAnyH_one (i := 6) (by kernel_rfl) rfl (by kernel_rfl) (fun K' hK' => ?_)
              go_simp
              refine (tree_any 1 (by omega) (some ⟨WO71.heap.size, 0, none⟩) (WO71.heap.size) 0 1 [F] _ (oneR hF (HO88.out.2.2.2.2.2.1)) (by omega) (HR.out.2.2.2.below (HO88.out.1))).mono ?_
              rintro e WO89 ⟨rfl, hb89⟩
              rw [bV_dg, ← HS.out.2.1]
              have HO89 := Lib.hid (show Below wr.heap.size wr WO89 ∧ _ ∧ _ ∧ _ ∧ _ ∧ _ ∧ _ ∧ _ ∧ _ ∧ _ from ⟨below_after HO88.out.1 hb89 HO88.out.1.size, HO88.out.2.1, blk_below HO88.out.2.2.1 hb89 (blk_lt HO88.out.2.2.1), HO88.out.2.2.2.1, HO88.out.2.2.2.2.1, blk_below HO88.out.2.2.2.2.2.1 hb89 (blk_lt HO88.out.2.2.2.2.2.1), HO88.out.2.2.2.2.2.2.1, HO88.out.2.2.2.2.2.2.2.1, HO88.out.2.2.2.2.2.2.2.2.1, blk_below HO88.out.2.2.2.2.2.2.2.2.2 hb89 (blk_lt HO88.out.2.2.2.2.2.2.2.2.2)⟩)
              clear hb89
              refine hK' _ _ (HO89.out.1) ?_
              clear hK' K'
              go_simp
              refine wpAnyH_one (i := 9) (by kernel_rfl) rfl (by kernel_rfl) (fun K' hK' => ?_)
              refine wp_store_row 26 (.tmp 7) (.tmp 25) (by kernel_rfl) wr.heap.size (bV (dgL sA)) (by kernel_rfl) (by kernel_rfl) 26 _ HO89.out.2.2.1 (sz_in (dgL_len _)) (sz_eq zL_len (dgL_len _)) (bV_one _) ?_
              have hf5 := setRow_heap _ wr.heap.size _ (bV (dgL sA)) 26 (0, 0) HO89.out.2.2.1
              have hf6 := (setRow_other WO89 wr.heap.size WO81.heap.size (bV (dgL sA)) (Ne.symm HO89.out.2.2.2.2.2.2.1)).trans HO89.out.2.2.2.2.2.2.2.2.2
              have hbw := below_setRow HO89.out.1 HO89.out.2.1 (bV (dgL sA))
              generalize WO89.setRow wr.heap.size (bV (dgL sA)) = WZ at *
              refine hK' _ _ (hbw) ?_
              clear hK' K'
              go_simp
              refine wpAnyH_one (i := 10) (by kernel_rfl) rfl (by kernel_rfl) (fun K' hK' => ?_)
              refine wp_store_row 26 (.tmp 8) (.tmp 28) (by kernel_rfl) WO81.heap.size (bV (dgL sB)) (by kernel_rfl) (by kernel_rfl) 26 _ hf6 (sz_in (dgL_len _)) (sz_eq zL_len (dgL_len _)) (bV_one _) ?_
              have hg6 := setRow_heap _ WO81.heap.size _ (bV (dgL sB)) 26 (0, 0) hf6
              have hg5 := (setRow_other WZ WO81.heap.size wr.heap.size (bV (dgL sB)) HO89.out.2.2.2.2.2.2.1).trans hf5
              have hbw2 := below_setRow hbw HO89.out.2.2.2.2.2.2.2.2.1 (bV (dgL sB))
              have HM := Lib.hid (show TwoD (dgL sA) (dgL sB) wr (.pointer (some ⟨wr.heap.size, 0, none⟩)) (.pointer (some ⟨WO81.heap.size, 0, none⟩)) (WZ.setRow WO81.heap.size (bV (dgL sB))) from ⟨_, _, rfl, rfl, hg5, hg6, hbw2, HO89.out.2.1, HO89.out.2.2.2.2.2.2.2.2.1, HO89.out.2.2.2.2.2.2.1⟩)
              generalize WZ.setRow WO81.heap.size (bV (dgL sB)) = WY at *
              clear hg6 hg5 hf5 hf6 hbw
              refine hK' _ _ (hbw2) ?_
              clear hK' K'
              go_simp
              refine wpAnyH_done (by kernel_rfl) ?_ _
              refine NoPanic.normal ?_
              go_simp
              go_wp2_with fail
              go_meet
              case rel => exact HM.out
          · go_simp
            rw [zL_val]
            have HO90 := Lib.hid (show Below wr.heap.size wr _ ∧ wr.heap.size ≤ wr.heap.size ∧ _ ∧ wr.heap.size ≠ WO71.heap.size ∧ wr.heap.size ≤ WO71.heap.size ∧ _ from ⟨HO71.out.1.alloc HO71.out.1.size (.cells (bV zL) 26), HO71.out.2.1, blk_alloc HO71.out.2.2 (.cells (bV zL) 26), other_block HO71.out.2.2 (Nat.le_refl _), HO71.out.1.size, blk_new WO71 (.cells (bV zL) 26)⟩)
            generalize WO71.alloc (.cells (bV zL) 26) = WO90 at *
            refine hK' _ _ (HO90.out.1) ?_
            clear hK' K'
            go_simp
            refine wpAnyH_two (i := 3) (j := 5) (by kernel_rfl) rfl rfl (by kernel_rfl) (by kernel_rfl) (fun K' hK' => ?_) (fun K' hK' => ?_)
            · go_simp
              refine (tree_any k (by omega) (some ⟨lb, 0, none⟩) lb 0 lcap (L.take k) _ ((HR.out.2.1.take hkm hk0).below (HO90.out.1) (Nat.le_refl _)) (by omega) (HR.out.2.2.2.below (HO90.out.1))).mono ?_
              rintro e WO91 ⟨rfl, hb91⟩
              rw [bV_dg, ← HS.out.1]
              have HO91 := Lib.hid (show Below wr.heap.size wr WO91 ∧ _ ∧ _ ∧ _ ∧ _ ∧ _ from ⟨below_after HO90.out.1 hb91 HO90.out.1.size, HO90.out.2.1, blk_below HO90.out.2.2.1 hb91 (blk_lt HO90.out.2.2.1), HO90.out.2.2.2.1, HO90.out.2.2.2.2.1, blk_below HO90.out.2.2.2.2.2 hb91 (blk_lt HO90.out.2.2.2.2.2)⟩)
              clear hb91
              refine hK' _ _ (HO91.out.1) ?_
              clear hK' K'
              go_simp
              refine wpAnyH_one (i := 5) (by kernel_rfl) rfl (by kernel_rfl) (fun K' hK' => ?_)
              refine wp_build_D (.tmp 26) rfl F hF (by kernel_rfl) ?_
              have HO92 := Lib.hid (show Below wr.heap.size wr _ ∧ wr.heap.size ≤ wr.heap.size ∧ _ ∧ wr.heap.size ≠ WO71.heap.size ∧ wr.heap.size ≤ WO71.heap.size ∧ _ ∧ wr.heap.size ≠ WO91.heap.size ∧ WO71.heap.size ≠ WO91.heap.size ∧ wr.heap.size ≤ WO91.heap.size ∧ _ from ⟨HO91.out.1.alloc HO91.out.1.size (.cells (bV F) 26), HO91.out.2.1, blk_alloc HO91.out.2.2.1 (.cells (bV F) 26), HO91.out.2.2.2.1, HO91.out.2.2.2.2.1, blk_alloc HO91.out.2.2.2.2.2 (.cells (bV F) 26), other_block HO91.out.2.2.1 (Nat.le_refl _), other_block HO91.out.2.2.2.2.2 (Nat.le_refl _), HO91.out.1.size, blk_new WO91 (.cells (bV F) 26)⟩)
              generalize WO91.alloc (.cells (bV F) 26) = WO92 at *
              refine hK' _ _ (HO92.out.1) ?_
              clear hK' K'
              go_simp
              refine wpAnyH_one (i := 6) (by kernel_rfl) rfl (by kernel_rfl) (fun K' hK' => ?_)
              go_simp
              refine (tree_any 1 (by omega) (some ⟨WO91.heap.size, 0, none⟩) (WO91.heap.size) 0 1 [F] _ (oneR hF (HO92.out.2.2.2.2.2.2.2.2.2)) (by omega) (HR.out.2.2.2.below (HO92.out.1))).mono ?_
              rintro e WO93 ⟨rfl, hb93⟩
              rw [bV_dg, ← HS.out.2.1]
              have HO93 := Lib.hid (show Below wr.heap.size wr WO93 ∧ _ ∧ _ ∧ _ ∧ _ ∧ _ ∧ _ ∧ _ ∧ _ ∧ _ from ⟨below_after HO92.out.1 hb93 HO92.out.1.size, HO92.out.2.1, blk_below HO92.out.2.2.1 hb93 (blk_lt HO92.out.2.2.1), HO92.out.2.2.2.1, HO92.out.2.2.2.2.1, blk_below HO92.out.2.2.2.2.2.1 hb93 (blk_lt HO92.out.2.2.2.2.2.1), HO92.out.2.2.2.2.2.2.1, HO92.out.2.2.2.2.2.2.2.1, HO92.out.2.2.2.2.2.2.2.2.1, blk_below HO92.out.2.2.2.2.2.2.2.2.2 hb93 (blk_lt HO92.out.2.2.2.2.2.2.2.2.2)⟩)
              clear hb93
              refine hK' _ _ (HO93.out.1) ?_
              clear hK' K'
              go_simp
              refine wpAnyH_one (i := 9) (by kernel_rfl) rfl (by kernel_rfl) (fun K' hK' => ?_)
              refine wp_store_row 26 (.tmp 7) (.tmp 25) (by kernel_rfl) wr.heap.size (bV (dgL sA)) (by kernel_rfl) (by kernel_rfl) 26 _ HO93.out.2.2.1 (sz_in (dgL_len _)) (sz_eq zL_len (dgL_len _)) (bV_one _) ?_
              have hf5 := setRow_heap _ wr.heap.size _ (bV (dgL sA)) 26 (0, 0) HO93.out.2.2.1
              have hf6 := (setRow_other WO93 wr.heap.size WO71.heap.size (bV (dgL sA)) (Ne.symm HO93.out.2.2.2.1)).trans HO93.out.2.2.2.2.2.1
              have hbw := below_setRow HO93.out.1 HO93.out.2.1 (bV (dgL sA))
              generalize WO93.setRow wr.heap.size (bV (dgL sA)) = WZ at *
              refine hK' _ _ (hbw) ?_
              clear hK' K'
              go_simp
              refine wpAnyH_one (i := 10) (by kernel_rfl) rfl (by kernel_rfl) (fun K' hK' => ?_)
              refine wp_store_row 26 (.tmp 8) (.tmp 28) (by kernel_rfl) WO71.heap.size (bV (dgL sB)) (by kernel_rfl) (by kernel_rfl) 26 _ hf6 (sz_in (dgL_len _)) (sz_eq zL_len (dgL_len _)) (bV_one _) ?_
              have hg6 := setRow_heap _ WO71.heap.size _ (bV (dgL sB)) 26 (0, 0) hf6
              have hg5 := (setRow_other WZ WO71.heap.size wr.heap.size (bV (dgL sB)) HO93.out.2.2.2.1).trans hf5
              have hbw2 := below_setRow hbw HO93.out.2.2.2.2.1 (bV (dgL sB))
              have HM := Lib.hid (show TwoD (dgL sA) (dgL sB) wr (.pointer (some ⟨wr.heap.size, 0, none⟩)) (.pointer (some ⟨WO71.heap.size, 0, none⟩)) (WZ.setRow WO71.heap.size (bV (dgL sB))) from ⟨_, _, rfl, rfl, hg5, hg6, hbw2, HO93.out.2.1, HO93.out.2.2.2.2.1, HO93.out.2.2.2.1⟩)
              generalize WZ.setRow WO71.heap.size (bV (dgL sB)) = WY at *
              clear hg6 hg5 hf5 hf6 hbw
              refine hK' _ _ (hbw2) ?_
              clear hK' K'
              go_simp
              refine wpAnyH_done (by kernel_rfl) ?_ _
              refine NoPanic.normal ?_
              go_simp
              go_wp2_with fail
              go_meet
              case rel => exact HM.out
            · refine wp_build_D (.tmp 26) rfl F hF (by kernel_rfl) ?_
              have HO94 := Lib.hid (show Below wr.heap.size wr _ ∧ wr.heap.size ≤ wr.heap.size ∧ _ ∧ wr.heap.size ≠ WO71.heap.size ∧ wr.heap.size ≤ WO71.heap.size ∧ _ ∧ wr.heap.size ≠ WO90.heap.size ∧ WO71.heap.size ≠ WO90.heap.size ∧ wr.heap.size ≤ WO90.heap.size ∧ _ from ⟨HO90.out.1.alloc HO90.out.1.size (.cells (bV F) 26), HO90.out.2.1, blk_alloc HO90.out.2.2.1 (.cells (bV F) 26), HO90.out.2.2.2.1, HO90.out.2.2.2.2.1, blk_alloc HO90.out.2.2.2.2.2 (.cells (bV F) 26), other_block HO90.out.2.2.1 (Nat.le_refl _), other_block HO90.out.2.2.2.2.2 (Nat.le_refl _), HO90.out.1.size, blk_new WO90 (.cells (bV F) 26)⟩)
              generalize WO90.alloc (.cells (bV F) 26) = WO94 at *
              refine hK' _ _ (HO94.out.1) ?_
              clear hK' K'
              go_simp
              refine wpAnyH_one (i := 3) (by kernel_rfl) rfl (by kernel_rfl) (fun K' hK' => ?_)
              go_simp
              refine (tree_any k (by omega) (some ⟨lb, 0, none⟩) lb 0 lcap (L.take k) _ ((HR.out.2.1.take hkm hk0).below (HO94.out.1) (Nat.le_refl _)) (by omega) (HR.out.2.2.2.below (HO94.out.1))).mono ?_
              rintro e WO95 ⟨rfl, hb95⟩
              rw [bV_dg, ← HS.out.1]
              have HO95 := Lib.hid (show Below wr.heap.size wr WO95 ∧ _ ∧ _ ∧ _ ∧ _ ∧ _ ∧ _ ∧ _ ∧ _ ∧ _ from ⟨below_after HO94.out.1 hb95 HO94.out.1.size, HO94.out.2.1, blk_below HO94.out.2.2.1 hb95 (blk_lt HO94.out.2.2.1), HO94.out.2.2.2.1, HO94.out.2.2.2.2.1, blk_below HO94.out.2.2.2.2.2.1 hb95 (blk_lt HO94.out.2.2.2.2.2.1), HO94.out.2.2.2.2.2.2.1, HO94.out.2.2.2.2.2.2.2.1, HO94.out.2.2.2.2.2.2.2.2.1, blk_below HO94.out.2.2.2.2.2.2.2.2.2 hb95 (blk_lt HO94.out.2.2.2.2.2.2.2.2.2)⟩)
              clear hb95
              refine hK' _ _ (HO95.out.1) ?_
              clear hK' K'
              go_simp
              refine wpAnyH_one (i := 6) (by kernel_rfl) rfl (by kernel_rfl) (fun K' hK' => ?_)
              go_simp
              refine (tree_any 1 (by omega) (some ⟨WO90.heap.size, 0, none⟩) (WO90.heap.size) 0 1 [F] _ (oneR hF (HO95.out.2.2.2.2.2.2.2.2.2)) (by omega) (HR.out.2.2.2.below (HO95.out.1))).mono ?_
              rintro e WO96 ⟨rfl, hb96⟩
              rw [bV_dg, ← HS.out.2.1]
              have HO96 := Lib.hid (show Below wr.heap.size wr WO96 ∧ _ ∧ _ ∧ _ ∧ _ ∧ _ ∧ _ ∧ _ ∧ _ ∧ _ from ⟨below_after HO95.out.1 hb96 HO95.out.1.size, HO95.out.2.1, blk_below HO95.out.2.2.1 hb96 (blk_lt HO95.out.2.2.1), HO95.out.2.2.2.1, HO95.out.2.2.2.2.1, blk_below HO95.out.2.2.2.2.2.1 hb96 (blk_lt HO95.out.2.2.2.2.2.1), HO95.out.2.2.2.2.2.2.1, HO95.out.2.2.2.2.2.2.2.1, HO95.out.2.2.2.2.2.2.2.2.1, blk_below HO95.out.2.2.2.2.2.2.2.2.2 hb96 (blk_lt HO95.out.2.2.2.2.2.2.2.2.2)⟩)
              clear hb96
              refine hK' _ _ (HO96.out.1) ?_
              clear hK' K'
              go_simp
              refine wpAnyH_one (i := 9) (by kernel_rfl) rfl (by kernel_rfl) (fun K' hK' => ?_)
              refine wp_store_row 26 (.tmp 7) (.tmp 25) (by kernel_rfl) wr.heap.size (bV (dgL sA)) (by kernel_rfl) (by kernel_rfl) 26 _ HO96.out.2.2.1 (sz_in (dgL_len _)) (sz_eq zL_len (dgL_len _)) (bV_one _) ?_
              have hf5 := setRow_heap _ wr.heap.size _ (bV (dgL sA)) 26 (0, 0) HO96.out.2.2.1
              have hf6 := (setRow_other WO96 wr.heap.size WO71.heap.size (bV (dgL sA)) (Ne.symm HO96.out.2.2.2.1)).trans HO96.out.2.2.2.2.2.1
              have hbw := below_setRow HO96.out.1 HO96.out.2.1 (bV (dgL sA))
              generalize WO96.setRow wr.heap.size (bV (dgL sA)) = WZ at *
              refine hK' _ _ (hbw) ?_
              clear hK' K'
              go_simp
              refine wpAnyH_one (i := 10) (by kernel_rfl) rfl (by kernel_rfl) (fun K' hK' => ?_)
              refine wp_store_row 26 (.tmp 8) (.tmp 28) (by kernel_rfl) WO71.heap.size (bV (dgL sB)) (by kernel_rfl) (by kernel_rfl) 26 _ hf6 (sz_in (dgL_len _)) (sz_eq zL_len (dgL_len _)) (bV_one _) ?_
              have hg6 := setRow_heap _ WO71.heap.size _ (bV (dgL sB)) 26 (0, 0) hf6
              have hg5 := (setRow_other WZ WO71.heap.size wr.heap.size (bV (dgL sB)) HO96.out.2.2.2.1).trans hf5
              have hbw2 := below_setRow hbw HO96.out.2.2.2.2.1 (bV (dgL sB))
              have HM := Lib.hid (show TwoD (dgL sA) (dgL sB) wr (.pointer (some ⟨wr.heap.size, 0, none⟩)) (.pointer (some ⟨WO71.heap.size, 0, none⟩)) (WZ.setRow WO71.heap.size (bV (dgL sB))) from ⟨_, _, rfl, rfl, hg5, hg6, hbw2, HO96.out.2.1, HO96.out.2.2.2.2.1, HO96.out.2.2.2.1⟩)
              generalize WZ.setRow WO71.heap.size (bV (dgL sB)) = WY at *
              clear hg6 hg5 hf5 hf6 hbw
              refine hK' _ _ (hbw2) ?_
              clear hK' K'
              go_simp
              refine wpAnyH_done (by kernel_rfl) ?_ _
              refine NoPanic.normal ?_
              go_simp
              go_wp2_with fail
              go_meet
              case rel => exact HM.out
        · go_simp
          rw [zL_val]
          have HO97 := Lib.hid (show Below wr.heap.size wr _ ∧ wr.heap.size ≤ wr.heap.size ∧ _ from ⟨((Below.refl wr.heap.size wr).alloc (Nat.le_refl _) (.cells (bV zL) 26)).drew, Nat.le_refl _, blk_drew (blk_new wr (.cells (bV zL) 26))⟩)
          generalize (wr.alloc (.cells (bV zL) 26)).drew = WO97 at *
          refine hK' _ _ (HO97.out.1) ?_
          clear hK' K'
          go_simp
          refine wpAnyH_three (i := 3) (j := 5) (k := 7) (by kernel_rfl) rfl rfl rfl (by kernel_rfl) (by kernel_rfl) (by kernel_rfl) (fun K' hK' => ?_) (fun K' hK' => ?_) (fun K' hK' => ?_)
          · go_simp
            refine (tree_any k (by omega) (some ⟨lb, 0, none⟩) lb 0 lcap (L.take k) _ ((HR.out.2.1.take hkm hk0).below (HO97.out.1) (Nat.le_refl _)) (by omega) (HR.out.2.2.2.below (HO97.out.1))).mono ?_
            rintro e WO98 ⟨rfl, hb98⟩
            rw [bV_dg, ← HS.out.1]
            have HO98 := Lib.hid (show Below wr.heap.size wr WO98 ∧ _ ∧ _ from ⟨below_after HO97.out.1 hb98 HO97.out.1.size, HO97.out.2.1, blk_below HO97.out.2.2 hb98 (blk_lt HO97.out.2.2)⟩)
            clear hb98
            refine hK' _ _ (HO98.out.1) ?_
            clear hK' K'
            go_simp
            refine wpAnyH_two (i := 5) (j := 7) (by kernel_rfl) rfl rfl (by kernel_rfl) (by kernel_rfl) (fun K' hK' => ?_) (fun K' hK' => ?_)
            · refine wp_build_D (.tmp 26) rfl F hF (by kernel_rfl) ?_
              have HO99 := Lib.hid (show Below wr.heap.size wr _ ∧ wr.heap.size ≤ wr.heap.size ∧ _ ∧ wr.heap.size ≠ WO98.heap.size ∧ wr.heap.size ≤ WO98.heap.size ∧ _ from ⟨HO98.out.1.alloc HO98.out.1.size (.cells (bV F) 26), HO98.out.2.1, blk_alloc HO98.out.2.2 (.cells (bV F) 26), other_block HO98.out.2.2 (Nat.le_refl _), HO98.out.1.size, blk_new WO98 (.cells (bV F) 26)⟩)
              generalize WO98.alloc (.cells (bV F) 26) = WO99 at *
              refine hK' _ _ (HO99.out.1) ?_
              clear hK' K'
              go_simp
              refine wpAnyH_two (i := 6) (j := 7) (by kernel_rfl) rfl rfl (by kernel_rfl) (by kernel_rfl) (fun K' hK' => ?_) (fun K' hK' => ?_)
              · go_simp
                refine (tree_any 1 (by omega) (some ⟨WO98.heap.size, 0, none⟩) (WO98.heap.size) 0 1 [F] _ (oneR hF (HO99.out.2.2.2.2.2)) (by omega) (HR.out.2.2.2.below (HO99.out.1))).mono ?_
                rintro e WO100 ⟨rfl, hb100⟩
                rw [bV_dg, ← HS.out.2.1]
                have HO100 := Lib.hid (show Below wr.heap.size wr WO100 ∧ _ ∧ _ ∧ _ ∧ _ ∧ _ from ⟨below_after HO99.out.1 hb100 HO99.out.1.size, HO99.out.2.1, blk_below HO99.out.2.2.1 hb100 (blk_lt HO99.out.2.2.1), HO99.out.2.2.2.1, HO99.out.2.2.2.2.1, blk_below HO99.out.2.2.2.2.2 hb100 (blk_lt HO99.out.2.2.2.2.2)⟩)
                clear hb100
                refine hK' _ _ (HO100.out.1) ?_
                clear hK' K'
                go_simp
                refine wpAnyH_one (i := 7) (by kernel_rfl) rfl (by kernel_rfl) (fun K' hK' => ?_)
                go_simp
                rw [zL_val]
                have HO101 := Lib.hid (show Below wr.heap.size wr _ ∧ wr.heap.size ≤ wr.heap.size ∧ _ ∧ wr.heap.size ≠ WO98.heap.size ∧ wr.heap.size ≤ WO98.heap.size ∧ _ ∧ wr.heap.size ≠ WO100.heap.size ∧ WO98.heap.size ≠ WO100.heap.size ∧ wr.heap.size ≤ WO100.heap.size ∧ _ from ⟨HO100.out.1.alloc HO100.out.1.size (.cells (bV zL) 26), HO100.out.2.1, blk_alloc HO100.out.2.2.1 (.cells (bV zL) 26), HO100.out.2.2.2.1, HO100.out.2.2.2.2.1, blk_alloc HO100.out.2.2.2.2.2 (.cells (bV zL) 26), other_block HO100.out.2.2.1 (Nat.le_refl _), other_block HO100.out.2.2.2.2.2 (Nat.le_refl _), HO100.out.1.size, blk_new WO100 (.cells (bV zL) 26)⟩)
                generalize WO100.alloc (.cells (bV zL) 26) = WO101 at *
                refine hK' _ _ (HO101.out.1) ?_
                clear hK' K'
                go_simp
                refine wpAnyH_one (i := 9) (by kernel_rfl) rfl (by kernel_rfl) (fun K' hK' => ?_)
                refine wp_store_row 26 (.tmp 7) (.tmp 25) (by kernel_rfl) WO100.heap.size (bV (dgL sA)) (by kernel_rfl) (by kernel_rfl) 26 _ HO101.out.2.2.2.2.2.2.2.2.2 (sz_in (dgL_len _)) (sz_eq zL_len (dgL_len _)) (bV_one _) ?_
                have hf5 := setRow_heap _ WO100.heap.size _ (bV (dgL sA)) 26 (0, 0) HO101.out.2.2.2.2.2.2.2.2.2
                have hf6 := (setRow_other WO101 WO100.heap.size wr.heap.size (bV (dgL sA)) HO101.out.2.2.2.2.2.2.1).trans HO101.out.2.2.1
                have hbw := below_setRow HO101.out.1 HO101.out.2.2.2.2.2.2.2.2.1 (bV (dgL sA))
                generalize WO101.setRow WO100.heap.size (bV (dgL sA)) = WZ at *
                refine hK' _ _ (hbw) ?_
                clear hK' K'
                go_simp
                refine wpAnyH_one (i := 10) (by kernel_rfl) rfl (by kernel_rfl) (fun K' hK' => ?_)
                refine wp_store_row 26 (.tmp 8) (.tmp 28) (by kernel_rfl) wr.heap.size (bV (dgL sB)) (by kernel_rfl) (by kernel_rfl) 26 _ hf6 (sz_in (dgL_len _)) (sz_eq zL_len (dgL_len _)) (bV_one _) ?_
                have hg6 := setRow_heap _ wr.heap.size _ (bV (dgL sB)) 26 (0, 0) hf6
                have hg5 := (setRow_other WZ wr.heap.size WO100.heap.size (bV (dgL sB)) (Ne.symm HO101.out.2.2.2.2.2.2.1)).trans hf5
                have hbw2 := below_setRow hbw HO101.out.2.1 (bV (dgL sB))
                have HM := Lib.hid (show TwoD (dgL sA) (dgL sB) wr (.pointer (some ⟨WO100.heap.size, 0, none⟩)) (.pointer (some ⟨wr.heap.size, 0, none⟩)) (WZ.setRow wr.heap.size (bV (dgL sB))) from ⟨_, _, rfl, rfl, hg5, hg6, hbw2, HO101.out.2.2.2.2.2.2.2.2.1, HO101.out.2.1, (Ne.symm HO101.out.2.2.2.2.2.2.1)⟩)
                generalize WZ.setRow wr.heap.size (bV (dgL sB)) = WY at *
                clear hg6 hg5 hf5 hf6 hbw
                refine hK' _ _ (hbw2) ?_
                clear hK' K'
                go_simp
                refine wpAnyH_done (by kernel_rfl) ?_ _
                refine NoPanic.normal ?_
                go_simp
                go_wp2_with fail
                go_meet
                case rel => exact HM.out
              · go_simp
                rw [zL_val]
                have HO102 := Lib.hid (show Below wr.heap.size wr _ ∧ wr.heap.size ≤ wr.heap.size ∧ _ ∧ wr.heap.size ≠ WO98.heap.size ∧ wr.heap.size ≤ WO98.heap.size ∧ _ ∧ wr.heap.size ≠ WO99.heap.size ∧ WO98.heap.size ≠ WO99.heap.size ∧ wr.heap.size ≤ WO99.heap.size ∧ _ from ⟨HO99.out.1.alloc HO99.out.1.size (.cells (bV zL) 26), HO99.out.2.1, blk_alloc HO99.out.2.2.1 (.cells (bV zL) 26), HO99.out.2.2.2.1, HO99.out.2.2.2.2.1, blk_alloc HO99.out.2.2.2.2.2 (.cells (bV zL) 26), other_block HO99.out.2.2.1 (Nat.le_refl _), other_block HO99.out.2.2.2.2.2 (Nat.le_refl _), HO99.out.1.size, blk_new WO99 (.cells (bV zL) 26)⟩)
                generalize WO99.alloc (.cells (bV zL) 26) = WO102 at *
                refine hK' _ _ (HO102.out.1) ?_
                clear hK' K'
                go_simp
                refine wpAnyH_one (i := 6) (by kernel_rfl) rfl (by kernel_rfl) (fun K' hK' => ?_)
                go_simp
                refine (tree_any 1 (by omega) (some ⟨WO98.heap.size, 0, none⟩) (WO98.heap.size) 0 1 [F] _ (oneR hF (HO102.out.2.2.2.2.2.1)) (by omega) (HR.out.2.2.2.below (HO102.out.1))).mono ?_
                rintro e WO103 ⟨rfl, hb103⟩
                rw [bV_dg, ← HS.out.2.1]
                have HO103 := Lib.hid (show Below wr.heap.size wr WO103 ∧ _ ∧ _ ∧ _ ∧ _ ∧ _ ∧ _ ∧ _ ∧ _ ∧ _ from ⟨below_after HO102.out.1 hb103 HO102.out.1.size, HO102.out.2.1, blk_below HO102.out.2.2.1 hb103 (blk_lt HO102.out.2.2.1), HO102.out.2.2.2.1, HO102.out.2.2.2.2.1, blk_below HO102.out.2.2.2.2.2.1 hb103 (blk_lt HO102.out.2.2.2.2.2.1), HO102.out.2.2.2.2.2.2.1, HO102.out.2.2.2.2.2.2.2.1, HO102.out.2.2.2.2.2.2.2.2.1, blk_below HO102.out.2.2.2.2.2.2.2.2.2 hb103 (blk_lt HO102.out.2.2.2.2.2.2.2.2.2)⟩)
                clear hb103
                refine hK' _ _ (HO103.out.1) ?_
                clear hK' K'
                go_simp
                refine wpAnyH_one (i := 9) (by kernel_rfl) rfl (by kernel_rfl) (fun K' hK' => ?_)
                refine wp_store_row 26 (.tmp 7) (.tmp 25) (by kernel_rfl) WO99.heap.size (bV (dgL sA)) (by kernel_rfl) (by kernel_rfl) 26 _ HO103.out.2.2.2.2.2.2.2.2.2 (sz_in (dgL_len _)) (sz_eq zL_len (dgL_len _)) (bV_one _) ?_
                have hf5 := setRow_heap _ WO99.heap.size _ (bV (dgL sA)) 26 (0, 0) HO103.out.2.2.2.2.2.2.2.2.2
                have hf6 := (setRow_other WO103 WO99.heap.size wr.heap.size (bV (dgL sA)) HO103.out.2.2.2.2.2.2.1).trans HO103.out.2.2.1
                have hbw := below_setRow HO103.out.1 HO103.out.2.2.2.2.2.2.2.2.1 (bV (dgL sA))
                generalize WO103.setRow WO99.heap.size (bV (dgL sA)) = WZ at *
                refine hK' _ _ (hbw) ?_
                clear hK' K'
                go_simp
                refine wpAnyH_one (i := 10) (by kernel_rfl) rfl (by kernel_rfl) (fun K' hK' => ?_)
                refine wp_store_row 26 (.tmp 8) (.tmp 28) (by kernel_rfl) wr.heap.size (bV (dgL sB)) (by kernel_rfl) (by kernel_rfl) 26 _ hf6 (sz_in (dgL_len _)) (sz_eq zL_len (dgL_len _)) (bV_one _) ?_
                have hg6 := setRow_heap _ wr.heap.size _ (bV (dgL sB)) 26 (0, 0) hf6
                have hg5 := (setRow_other WZ wr.heap.size WO99.heap.size (bV (dgL sB)) (Ne.symm HO103.out.2.2.2.2.2.2.1)).trans hf5
                have hbw2 := below_setRow hbw HO103.out.2.1 (bV (dgL sB))
                have HM := Lib.hid (show TwoD (dgL sA) (dgL sB) wr (.pointer (some ⟨WO99.heap.size, 0, none⟩)) (.pointer (some ⟨wr.heap.size, 0, none⟩)) (WZ.setRow wr.heap.size (bV (dgL sB))) from ⟨_, _, rfl, rfl, hg5, hg6, hbw2, HO103.out.2.2.2.2.2.2.2.2.1, HO103.out.2.1, (Ne.symm HO103.out.2.2.2.2.2.2.1)⟩)
                generalize WZ.setRow wr.heap.size (bV (dgL sB)) = WY at *
                clear hg6 hg5 hf5 hf6 hbw
                refine hK' _ _ (hbw2) ?_
                clear hK' K'
                go_simp
                refine wpAnyH_done (by kernel_rfl) ?_ _
                refine NoPanic.normal ?_
                go_simp
                go_wp2_with fail
                go_meet
                case rel => exact HM.out
            · go_simp
              rw [zL_val]
              have HO104 := Lib.hid (show Below wr.heap.size wr _ ∧ wr.heap.size ≤ wr.heap.size ∧ _ ∧ wr.heap.size ≠ WO98.heap.size ∧ wr.heap.size ≤ WO98.heap.size ∧ _ from ⟨HO98.out.1.alloc HO98.out.1.size (.cells (bV zL) 26), HO98.out.2.1, blk_alloc HO98.out.2.2 (.cells (bV zL) 26), other_block HO98.out.2.2 (Nat.le_refl _), HO98.out.1.size, blk_new WO98 (.cells (bV zL) 26)⟩)
              generalize WO98.alloc (.cells (bV zL) 26) = WO104 at *
              refine hK' _ _ (HO104.out.1) ?_
              clear hK' K'
              go_simp
              refine wpAnyH_one (i := 5) (by kernel_rfl) rfl (by kernel_rfl) (fun K' hK' => ?_)
              refine wp_build_D (.tmp 26) rfl F hF (by kernel_rfl) ?_
              have HO105 := Lib.hid (show Below wr.heap.size wr _ ∧ wr.heap.size ≤ wr.heap.size ∧ _ ∧ wr.heap.size ≠ WO98.heap.size ∧ wr.heap.size ≤ WO98.heap.size ∧ _ ∧ wr.heap.size ≠ WO104.heap.size ∧ WO98.heap.size ≠ WO104.heap.size ∧ wr.heap.size ≤ WO104.heap.size ∧ _ from ⟨HO104.out.1.alloc HO104.out.1.size (.cells (bV F) 26), HO104.out.2.1, blk_alloc HO104.out.2.2.1 (.cells (bV F) 26), HO104.out.2.2.2.1, HO104.out.2.2.2.2.1, blk_alloc HO104.out.2.2.2.2.2 (.cells (bV F) 26), other_block HO104.out.2.2.1 (Nat.le_refl _), other_block HO104.out.2.2.2.2.2 (Nat.le_refl _), HO104.out.1.size, blk_new WO104 (.cells (bV F) 26)⟩)
              generalize WO104.alloc (.cells (bV F) 26) = WO105 at *
              refine hK' _ _ (HO105.out.1) ?_
              clear hK' K'
              go_simp
              refine wpAnyH_one (i := 6) (by kernel_rfl) rfl (by kernel_rfl) (fun K' hK' => ?_)
              go_simp
              refine (tree_any 1 (by omega) (some ⟨WO104.heap.size, 0, none⟩) (WO104.heap.size) 0 1 [F] _ (oneR hF (HO105.out.2.2.2.2.2.2.2.2.2)) (by omega) (HR.out.2.2.2.below (HO105.out.1))).mono ?_
              rintro e WO106 ⟨rfl, hb106⟩
              rw [bV_dg, ← HS.out.2.1]
              have HO106 := Lib.hid (show Below wr.heap.size wr WO106 ∧ _ ∧ _ ∧ _ ∧ _ ∧ _ ∧ _ ∧ _ ∧ _ ∧ _ from ⟨below_after HO105.out.1 hb106 HO105.out.1.size, HO105.out.2.1, blk_below HO105.out.2.2.1 hb106 (blk_lt HO105.out.2.2.1), HO105.out.2.2.2.1, HO105.out.2.2.2.2.1, blk_below HO105.out.2.2.2.2.2.1 hb106 (blk_lt HO105.out.2.2.2.2.2.1), HO105.out.2.2.2.2.2.2.1, HO105.out.2.2.2.2.2.2.2.1, HO105.out.2.2.2.2.2.2.2.2.1, blk_below HO105.out.2.2.2.2.2.2.2.2.2 hb106 (blk_lt HO105.out.2.2.2.2.2.2.2.2.2)⟩)
              clear hb106
              refine hK' _ _ (HO106.out.1) ?_
              clear hK' K'
              go_simp
              refine wpAnyH_one (i := 9) (by kernel_rfl) rfl (by kernel_rfl) (fun K' hK' => ?_)
              refine wp_store_row 26 (.tmp 7) (.tmp 25) (by kernel_rfl) WO98.heap.size (bV (dgL sA)) (by kernel_rfl) (by kernel_rfl) 26 _ HO106.out.2.2.2.2.2.1 (sz_in (dgL_len _)) (sz_eq zL_len (dgL_len _)) (bV_one _) ?_
              have hf5 := setRow_heap _ WO98.heap.size _ (bV (dgL sA)) 26 (0, 0) HO106.out.2.2.2.2.2.1
              have hf6 := (setRow_other WO106 WO98.heap.size wr.heap.size (bV (dgL sA)) HO106.out.2.2.2.1).trans HO106.out.2.2.1
              have hbw := below_setRow HO106.out.1 HO106.out.2.2.2.2.1 (bV (dgL sA))
              generalize WO106.setRow WO98.heap.size (bV (dgL sA)) = WZ at *
              refine hK' _ _ (hbw) ?_
              clear hK' K'
              go_simp
              refine wpAnyH_one (i := 10) (by kernel_rfl) rfl (by kernel_rfl) (fun K' hK' => ?_)
              refine wp_store_row 26 (.tmp 8) (.tmp 28) (by kernel_rfl) wr.heap.size (bV (dgL sB)) (by kernel_rfl) (by kernel_rfl) 26 _ hf6 (sz_in (dgL_len _)) (sz_eq zL_len (dgL_len _)) (bV_one _) ?_
              have hg6 := setRow_heap _ wr.heap.size _ (bV (dgL sB)) 26 (0, 0) hf6
              have hg5 := (setRow_other WZ wr.heap.size WO98.heap.size (bV (dgL sB)) (Ne.symm HO106.out.2.2.2.1)).trans hf5
              have hbw2 := below_setRow hbw HO106.out.2.1 (bV (dgL sB))
              have HM := Lib.hid (show TwoD (dgL sA) (dgL sB) wr (.pointer (some ⟨WO98.heap.size, 0, none⟩)) (.pointer (some ⟨wr.heap.size, 0, none⟩)) (WZ.setRow wr.heap.size (bV (dgL sB))) from ⟨_, _, rfl, rfl, hg5, hg6, hbw2, HO106.out.2.2.2.2.1, HO106.out.2.1, (Ne.symm HO106.out.2.2.2.1)⟩)
              generalize WZ.setRow wr.heap.size (bV (dgL sB)) = WY at *
              clear hg6 hg5 hf5 hf6 hbw
              refine hK' _ _ (hbw2) ?_
              clear hK' K'
              go_simp
              refine wpAnyH_done (by kernel_rfl) ?_ _
              refine NoPanic.normal ?_
              go_simp
              go_wp2_with fail
              go_meet
              case rel => exact HM.out
          · refine wp_build_D (.tmp 26) rfl F hF (by kernel_rfl) ?_
            have HO107 := Lib.hid (show Below wr.heap.size wr _ ∧ wr.heap.size ≤ wr.heap.size ∧ _ ∧ wr.heap.size ≠ WO97.heap.size ∧ wr.heap.size ≤ WO97.heap.size ∧ _ from ⟨HO97.out.1.alloc HO97.out.1.size (.cells (bV F) 26), HO97.out.2.1, blk_alloc HO97.out.2.2 (.cells (bV F) 26), other_block HO97.out.2.2 (Nat.le_refl _), HO97.out.1.size, blk_new WO97 (.cells (bV F) 26)⟩)
            generalize WO97.alloc (.cells (bV F) 26) = WO107 at *
            refine hK' _ _ (HO107.out.1) ?_
            clear hK' K'
            go_simp
            refine wpAnyH_two (i := 3) (j := 7) (by kernel_rfl) rfl rfl (by kernel_rfl) (by kernel_rfl) (fun K' hK' => ?_) (fun K' hK' => ?_)
            · go_simp
              refine (tree_any k (by omega) (some ⟨lb, 0, none⟩) lb 0 lcap (L.take k) _ ((HR.out.2.1.take hkm hk0).below (HO107.out.1) (Nat.le_refl _)) (by omega) (HR.out.2.2.2.below (HO107.out.1))).mono ?_
              rintro e WO108 ⟨rfl, hb108⟩
              rw [bV_dg, ← HS.out.1]
              have HO108 := Lib.hid (show Below wr.heap.size wr WO108 ∧ _ ∧ _ ∧ _ ∧ _ ∧ _ from ⟨below_after HO107.out.1 hb108 HO107.out.1.size, HO107.out.2.1, blk_below HO107.out.2.2.1 hb108 (blk_lt HO107.out.2.2.1), HO107.out.2.2.2.1, HO107.out.2.2.2.2.1, blk_below HO107.out.2.2.2.2.2 hb108 (blk_lt HO107.out.2.2.2.2.2)⟩)
              clear hb108
              refine hK' _ _ (HO108.out.1) ?_
              clear hK' K'
              go_simp
              refine wpAnyH_two (i := 6) (j := 7) (by kernel_rfl) rfl rfl (by kernel_rfl) (by kernel_rfl) (fun K' hK' => ?_) (fun K' hK' => ?_)
              · go_simp
                refine (tree_any 1 (by omega) (some ⟨WO97.heap.size, 0, none⟩) (WO97.heap.size) 0 1 [F] _ (oneR hF (HO108.out.2.2.2.2.2)) (by omega) (HR.out.2.2.2.below (HO108.out.1))).mono ?_
                rintro e WO109 ⟨rfl, hb109⟩
                rw [bV_dg, ← HS.out.2.1]
                have HO109 := Lib.hid (show Below wr.heap.size wr WO109 ∧ _ ∧ _ ∧ _ ∧ _ ∧ _ from ⟨below_after HO108.out.1 hb109 HO108.out.1.size, HO108.out.2.1, blk_below HO108.out.2.2.1 hb109 (blk_lt HO108.out.2.2.1), HO108.out.2.2.2.1, HO108.out.2.2.2.2.1, blk_below HO108.out.2.2.2.2.2 hb109 (blk_lt HO108.out.2.2.2.2.2)⟩)
                clear hb109
                refine hK' _ _ (HO109.out.1) ?_
                clear hK' K'
                go_simp
                refine wpAnyH_one (i := 7) (by kernel_rfl) rfl (by kernel_rfl) (fun K' hK' => ?_)
                go_simp
                rw [zL_val]
                have HO110 := Lib.hid (show Below wr.heap.size wr _ ∧ wr.heap.size ≤ wr.heap.size ∧ _ ∧ wr.heap.size ≠ WO97.heap.size ∧ wr.heap.size ≤ WO97.heap.size ∧ _ ∧ wr.heap.size ≠ WO109.heap.size ∧ WO97.heap.size ≠ WO109.heap.size ∧ wr.heap.size ≤ WO109.heap.size ∧ _ from ⟨HO109.out.1.alloc HO109.out.1.size (.cells (bV zL) 26), HO109.out.2.1, blk_alloc HO109.out.2.2.1 (.cells (bV zL) 26), HO109.out.2.2.2.1, HO109.out.2.2.2.2.1, blk_alloc HO109.out.2.2.2.2.2 (.cells (bV zL) 26), other_block HO109.out.2.2.1 (Nat.le_refl _), other_block HO109.out.2.2.2.2.2 (Nat.le_refl _), HO109.out.1.size, blk_new WO109 (.cells (bV zL) 26)⟩)
                generalize WO109.alloc (.cells (bV zL) 26) = WO110 at *
                refine hK' _ _ (HO110.out.1) ?_
                clear hK' K'
                go_simp
                refine wpAnyH_one (i := 9) (by kernel_rfl) rfl (by kernel_rfl) (fun K' hK' => ?_)
                refine wp_store_row 26 (.tmp 7) (.tmp 25) (by kernel_rfl) WO109.heap.size (bV (dgL sA)) (by kernel_rfl) (by kernel_rfl) 26 _ HO110.out.2.2.2.2.2.2.2.2.2 (sz_in (dgL_len _)) (sz_eq zL_len (dgL_len _)) (bV_one _) ?_
                have hf5 := setRow_heap _ WO109.heap.size _ (bV (dgL sA)) 26 (0, 0) HO110.out.2.2.2.2.2.2.2.2.2
                have hf6 := (setRow_other WO110 WO109.heap.size wr.heap.size (bV (dgL sA)) HO110.out.2.2.2.2.2.2.1).trans HO110.out.2.2.1
                have hbw := below_setRow HO110.out.1 HO110.out.2.2.2.2.2.2.2.2.1 (bV (dgL sA))
                generalize WO110.setRow WO109.heap.size (bV (dgL sA)) = WZ at *
                refine hK' _ _ (hbw) ?_
                clear hK' K'
                go_simp
                refine wpAnyH_one (i := 10) (by kernel_rfl) rfl (by kernel_rfl) (fun K' hK' => ?_)
                refine wp_store_row 26 (.tmp 8) (.tmp 28) (by kernel_rfl) wr.heap.size (bV (dgL sB)) (by kernel_rfl) (by kernel_rfl) 26 _ hf6 (sz_in (dgL_len _)) (sz_eq zL_len (dgL_len _)) (bV_one _) ?_
                have hg6 := setRow_heap _ wr.heap.size _ (bV (dgL sB)) 26 (0, 0) hf6
                have hg5 := (setRow_other WZ wr.heap.size WO109.heap.size (bV (dgL sB)) (Ne.symm HO110.out.2.2.2.2.2.2.1)).trans hf5
                have hbw2 := below_setRow hbw HO110.out.2.1 (bV (dgL sB))
                have HM := Lib.hid (show TwoD (dgL sA) (dgL sB) wr (.pointer (some ⟨WO109.heap.size, 0, none⟩)) (.pointer (some ⟨wr.heap.size, 0, none⟩)) (WZ.setRow wr.heap.size (bV (dgL sB))) from ⟨_, _, rfl, rfl, hg5, hg6, hbw2, HO110.out.2.2.2.2.2.2.2.2.1, HO110.out.2.1, (Ne.symm HO110.out.2.2.2.2.2.2.1)⟩)
                generalize WZ.setRow wr.heap.size (bV (dgL sB)) = WY at *
                clear hg6 hg5 hf5 hf6 hbw
                refine hK' _ _ (hbw2) ?_
                clear hK' K'
                go_simp
                refine wpAnyH_done (by kernel_rfl) ?_ _
                refine NoPanic.normal ?_
                go_simp
                go_wp2_with fail
                go_meet
                case rel => exact HM.out
              · go_simp
                rw [zL_val]
                have HO111 := Lib.hid (show Below wr.heap.size wr _ ∧ wr.heap.size ≤ wr.heap.size ∧ _ ∧ wr.heap.size ≠ WO97.heap.size ∧ wr.heap.size ≤ WO97.heap.size ∧ _ ∧ wr.heap.size ≠ WO108.heap.size ∧ WO97.heap.size ≠ WO108.heap.size ∧ wr.heap.size ≤ WO108.heap.size ∧ _ from ⟨HO108.out.1.alloc HO108.out.1.size (.cells (bV zL) 26), HO108.out.2.1, blk_alloc HO108.out.2.2.1 (.cells (bV zL) 26), HO108.out.2.2.2.1, HO108.out.2.2.2.2.1, blk_alloc HO108.out.2.2.2.2.2 (.cells (bV zL) 26), other_block HO108.out.2.2.1 (Nat.le_refl _), other_block HO108.out.2.2.2.2.2 (Nat.le_refl _), HO108.out.1.size, blk_new WO108 (.cells (bV zL) 26)⟩)
                generalize WO108.alloc (.cells (bV zL) 26) = WO111 at *
                refine hK' _ _ (HO111.out.1) ?_
                clear hK' K'
                go_simp
                refine wpAnyH_one (i := 6) (by kernel_rfl) rfl (by kernel_rfl) (fun K' hK' => ?_)
                go_simp
                refine (tree_any 1 (by omega) (some ⟨WO97.heap.size, 0, none⟩) (WO97.heap.size) 0 1 [F] _ (oneR hF (HO111.out.2.2.2.2.2.1)) (by omega) (HR.out.2.2.2.below (HO111.out.1))).mono ?_
                rintro e WO112 ⟨rfl, hb112⟩
                rw [bV_dg, ← HS.out.2.1]
                have HO112 := Lib.hid (show Below wr.heap.size wr WO112 ∧ _ ∧ _ ∧ _ ∧ _ ∧ _ ∧ _ ∧ _ ∧ _ ∧ _ from ⟨below_after HO111.out.1 hb112 HO111.out.1.size, HO111.out.2.1, blk_below HO111.out.2.2.1 hb112 (blk_lt HO111.out.2.2.1), HO111.out.2.2.2.1, HO111.out.2.2.2.2.1, blk_below HO111.out.2.2.2.2.2.1 hb112 (blk_lt HO111.out.2.2.2.2.2.1), HO111.out.2.2.2.2.2.2.1, HO111.out.2.2.2.2.2.2.2.1, HO111.out.2.2.2.2.2.2.2.2.1, blk_below HO111.out.2.2.2.2.2.2.2.2.2 hb112 (blk_lt HO111.out.2.2.2.2.2.2.2.2.2)⟩)
                clear hb112
                refine hK' _ _ (HO112.out.1) ?_
                clear hK' K'
                go_simp
                refine wpAnyH_one (i := 9) (by kernel_rfl) rfl (by kernel_rfl) (fun K' hK' => ?_)
                refine wp_store_row 26 (.tmp 7) (.tmp 25) (by kernel_rfl) WO108.heap.size (bV (dgL sA)) (by kernel_rfl) (by kernel_rfl) 26 _ HO112.out.2.2.2.2.2.2.2.2.2 (sz_in (dgL_len _)) (sz_eq zL_len (dgL_len _)) (bV_one _) ?_
                have hf5 := setRow_heap _ WO108.heap.size _ (bV (dgL sA)) 26 (0, 0) HO112.out.2.2.2.2.2.2.2.2.2
                have hf6 := (setRow_other WO112 WO108.heap.size wr.heap.size (bV (dgL sA)) HO112.out.2.2.2.2.2.2.1).trans HO112.out.2.2.1
                have hbw := below_setRow HO112.out.1 HO112.out.2.2.2.2.2.2.2.2.1 (bV (dgL sA))
                generalize WO112.setRow WO108.heap.size (bV (dgL sA)) = WZ at *
                refine hK' _ _ (hbw) ?_
                clear hK' K'
                go_simp
                refine wpAnyH_one (i := 10) (by kernel_rfl) rfl (by kernel_rfl) (fun K' hK' => ?_)
                refine wp_store_row 26 (.tmp 8) (.tmp 28) (by kernel_rfl) wr.heap.size (bV (dgL sB)) (by kernel_rfl) (by kernel_rfl) 26 _ hf6 (sz_in (dgL_len _)) (sz_eq zL_len (dgL_len _)) (bV_one _) ?_
                have hg6 := setRow_heap _ wr.heap.size _ (bV (dgL sB)) 26 (0, 0) hf6
                have hg5 := (setRow_other WZ wr.heap.size WO108.heap.size (bV (dgL sB)) (Ne.symm HO112.out.2.2.2.2.2.2.1)).trans hf5
                have hbw2 := below_setRow hbw HO112.out.2.1 (bV (dgL sB))
                have HM := Lib.hid (show TwoD (dgL sA) (dgL sB) wr (.pointer (some ⟨WO108.heap.size, 0, none⟩)) (.pointer (some ⟨wr.heap.size, 0, none⟩)) (WZ.setRow wr.heap.size (bV (dgL sB))) from ⟨_, _, rfl, rfl, hg5, hg6, hbw2, HO112.out.2.2.2.2.2.2.2.2.1, HO112.out.2.1, (Ne.symm HO112.out.2.2.2.2.2.2.1)⟩)
                generalize WZ.setRow wr.heap.size (bV (dgL sB)) = WY at *
                clear hg6 hg5 hf5 hf6 hbw
                refine hK' _ _ (hbw2) ?_
                clear hK' K'
                go_simp
                refine wpAnyH_done (by kernel_rfl) ?_ _
                refine NoPanic.normal ?_
                go_simp
                go_wp2_with fail
                go_meet
                case rel => exact HM.out
            · go_simp
              rw [zL_val]
              have HO113 := Lib.hid (show Below wr.heap.size wr _ ∧ wr.heap.size ≤ wr.heap.size ∧ _ ∧ wr.heap.size ≠ WO97.heap.size ∧ wr.heap.size ≤ WO97.heap.size ∧ _ ∧ wr.heap.size ≠ WO107.heap.size ∧ WO97.heap.size ≠ WO107.heap.size ∧ wr.heap.size ≤ WO107.heap.size ∧ _ from ⟨HO107.out.1.alloc HO107.out.1.size (.cells (bV zL) 26), HO107.out.2.1, blk_alloc HO107.out.2.2.1 (.cells (bV zL) 26), HO107.out.2.2.2.1, HO107.out.2.2.2.2.1, blk_alloc HO107.out.2.2.2.2.2 (.cells (bV zL) 26), other_block HO107.out.2.2.1 (Nat.le_refl _), other_block HO107.out.2.2.2.2.2 (Nat.le_refl _), HO107.out.1.size, blk_new WO107 (.cells (bV zL) 26)⟩)
              generalize WO107.alloc (.cells (bV zL) 26) = WO113 at *
              refine hK' _ _ (HO113.out.1) ?_
              clear hK' K'
              go_simp
              refine wpAnyH_one (i := 3) (by kernel_rfl) rfl (by kernel_rfl) (fun K' hK' => ?_)
              go_simp
              refine (tree_any k (by omega) (some ⟨lb, 0, none⟩) lb 0 lcap (L.take k) _ ((HR.out.2.1.take hkm hk0).below (HO113.out.1) (Nat.le_refl _)) (by omega) (HR.out.2.2.2.below (HO113.out.1))).mono ?_
              rintro e WO114 ⟨rfl, hb114⟩
              rw [bV_dg, ← HS.out.1]
              have HO114 := Lib.hid (show Below wr.heap.size wr WO114 ∧ _ ∧ _ ∧ _ ∧ _ ∧ _ ∧ _ ∧ _ ∧ _ ∧ _ from ⟨below_after HO113.out.1 hb114 HO113.out.1.size, HO113.out.2.1, blk_below HO113.out.2.2.1 hb114 (blk_lt HO113.out.2.2.1), HO113.out.2.2.2.1, HO113.out.2.2.2.2.1, blk_below HO113.out.2.2.2.2.2.1 hb114 (blk_lt HO113.out.2.2.2.2.2.1), HO113.out.2.2.2.2.2.2.1, HO113.out.2.2.2.2.2.2.2.1, HO113.out.2.2.2.2.2.2.2.2.1, blk_below HO113.out.2.2.2.2.2.2.2.2.2 hb114 (blk_lt HO113.out.2.2.2.2.2.2.2.2.2)⟩)
              clear hb114
              refine hK' _ _ (HO114.out.1) ?_
              clear hK' K'
              go_simp
              refine wpAnyH_one (i := 6) (by kernel_rfl) rfl (by kernel_rfl) (fun K' hK' => ?_)
              go_simp
              refine (tree_any 1 (by omega) (some ⟨WO97.heap.size, 0, none⟩) (WO97.heap.size) 0 1 [F] _ (oneR hF (HO114.out.2.2.2.2.2.1)) (by omega) (HR.out.2.2.2.below (HO114.out.1))).mono ?_
              rintro e WO115 ⟨rfl, hb115⟩
              rw [bV_dg, ← HS.out.2.1]
              have HO115 := Lib.hid (show Below wr.heap.size wr WO115 ∧ _ ∧ _ ∧ _ ∧ _ ∧ _ ∧ _ ∧ _ ∧ _ ∧ _ from ⟨below_after HO114.out.1 hb115 HO114.out.1.size, HO114.out.2.1, blk_below HO114.out.2.2.1 hb115 (blk_lt HO114.out.2.2.1), HO114.out.2.2.2.1, HO114.out.2.2.2.2.1, blk_below HO114.out.2.2.2.2.2.1 hb115 (blk_lt HO114.out.2.2.2.2.2.1), HO114.out.2.2.2.2.2.2.1, HO114.out.2.2.2.2.2.2.2.1, HO114.out.2.2.2.2.2.2.2.2.1, blk_below HO114.out.2.2.2.2.2.2.2.2.2 hb115 (blk_lt HO114.out.2.2.2.2.2.2.2.2.2)⟩)
              clear hb115
              refine hK' _ _ (HO115.out.1) ?_
              clear hK' K'
              go_simp
              refine wpAnyH_one (i := 9) (by kernel_rfl) rfl (by kernel_rfl) (fun K' hK' => ?_)
              refine wp_store_row 26 (.tmp 7) (.tmp 25) (by kernel_rfl) WO107.heap.size (bV (dgL sA)) (by kernel_rfl) (by kernel_rfl) 26 _ HO115.out.2.2.2.2.2.2.2.2.2 (sz_in (dgL_len _)) (sz_eq zL_len (dgL_len _)) (bV_one _) ?_
              have hf5 := setRow_heap _ WO107.heap.size _ (bV (dgL sA)) 26 (0, 0) HO115.out.2.2.2.2.2.2.2.2.2
              have hf6 := (setRow_other WO115 WO107.heap.size wr.heap.size (bV (dgL sA)) HO115.out.2.2.2.2.2.2.1).trans HO115.out.2.2.1
              have hbw := below_setRow HO115.out.1 HO115.out.2.2.2.2.2.2.2.2.1 (bV (dgL sA))
              generalize WO115.setRow WO107.heap.size (bV (dgL sA)) = WZ at *
              refine hK' _ _ (hbw) ?_
              clear hK' K'
              go_simp
              refine wpAnyH_one (i := 10) (by kernel_rfl) rfl (by kernel_rfl) (fun K' hK' => ?_)
              refine wp_store_row 26 (.tmp 8) (.tmp 28) (by kernel_rfl) wr.heap.size (bV (dgL sB)) (by kernel_rfl) (by kernel_rfl) 26 _ hf6 (sz_in (dgL_len _)) (sz_eq zL_len (dgL_len _)) (bV_one _) ?_
              have hg6 := setRow_heap _ wr.heap.size _ (bV (dgL sB)) 26 (0, 0) hf6
              have hg5 := (setRow_other WZ wr.heap.size WO107.heap.size (bV (dgL sB)) (Ne.symm HO115.out.2.2.2.2.2.2.1)).trans hf5
              have hbw2 := below_setRow hbw HO115.out.2.1 (bV (dgL sB))
              have HM := Lib.hid (show TwoD (dgL sA) (dgL sB) wr (.pointer (some ⟨WO107.heap.size, 0, none⟩)) (.pointer (some ⟨wr.heap.size, 0, none⟩)) (WZ.setRow wr.heap.size (bV (dgL sB))) from ⟨_, _, rfl, rfl, hg5, hg6, hbw2, HO115.out.2.2.2.2.2.2.2.2.1, HO115.out.2.1, (Ne.symm HO115.out.2.2.2.2.2.2.1)⟩)
              generalize WZ.setRow wr.heap.size (bV (dgL sB)) = WY at *
              clear hg6 hg5 hf5 hf6 hbw
              refine hK' _ _ (hbw2) ?_
              clear hK' K'
              go_simp
              refine wpAnyH_done (by kernel_rfl) ?_ _
              refine NoPanic.normal ?_
              go_simp
              go_wp2_with fail
              go_meet
              case rel => exact HM.out
          · go_simp
            rw [zL_val]
            have HO116 := Lib.hid (show Below wr.heap.size wr _ ∧ wr.heap.size ≤ wr.heap.size ∧ _ ∧ wr.heap.size ≠ WO97.heap.size ∧ wr.heap.size ≤ WO97.heap.size ∧ _ from ⟨HO97.out.1.alloc HO97.out.1.size (.cells (bV zL) 26), HO97.out.2.1, blk_alloc HO97.out.2.2 (.cells (bV zL) 26), other_block HO97.out.2.2 (Nat.le_refl _), HO97.out.1.size, blk_new WO97 (.cells (bV zL) 26)⟩)
            generalize WO97.alloc (.cells (bV zL) 26) = WO116 at *
            refine hK' _ _ (HO116.out.1) ?_
            clear hK' K'
            go_simp
            refine wpAnyH_two (i := 3) (j := 5) (by kernel_rfl) rfl rfl (by kernel_rfl) (by kernel_rfl) (fun K' hK' => ?_) (fun K' hK' => ?_)
            · go_simp
              refine (tree_any k (by omega) (some ⟨lb, 0, none⟩) lb 0 lcap (L.take k) _ ((HR.out.2.1.take hkm hk0).below (HO116.out.1) (Nat.le_refl _)) (by omega) (HR.out.2.2.2.below (HO116.out.1))).mono ?_
              rintro e WO117 ⟨rfl, hb117⟩
              rw [bV_dg, ← HS.out.1]
              have HO117 := Lib.hid (show Below wr.heap.size wr WO117 ∧ _ ∧ _ ∧ _ ∧ _ ∧ _ from ⟨below_after HO116.out.1 hb117 HO116.out.1.size, HO116.out.2.1, blk_below HO116.out.2.2.1 hb117 (blk_lt HO116.out.2.2.1), HO116.out.2.2.2.1, HO116.out.2.2.2.2.1, blk_below HO116.out.2.2.2.2.2 hb117 (blk_lt HO116.out.2.2.2.2.2)⟩)
              clear hb117
              refine hK' _ _ (HO117.out.1) ?_
              clear hK' K'
              go_simp
              refine wpAnyH_one (i := 5) (by kernel_rfl) rfl (by kernel_rfl) (fun K' hK' => ?_)
              refine wp_build_D (.tmp 26) rfl F hF (by kernel_rfl) ?_
              have HO118 := Lib.hid (show Below wr.heap.size wr _ ∧ wr.heap.size ≤ wr.heap.size ∧ _ ∧ wr.heap.size ≠ WO97.heap.size ∧ wr.heap.size ≤ WO97.heap.size ∧ _ ∧ wr.heap.size ≠ WO117.heap.size ∧ WO97.heap.size ≠ WO117.heap.size ∧ wr.heap.size ≤ WO117.heap.size ∧ _ from ⟨HO117.out.1.alloc HO117.out.1.size (.cells (bV F) 26), HO117.out.2.1, blk_alloc HO117.out.2.2.1 (.cells (bV F) 26), HO117.out.2.2.2.1, HO117.out.2.2.2.2.1, blk_alloc HO117.out.2.2.2.2.2 (.cells (bV F) 26), other_block HO117.out.2.2.1 (Nat.le_refl _), other_block HO117.out.2.2.2.2.2 (Nat.le_refl _), HO117.out.1.size, blk_new WO117 (.cells (bV F) 26)⟩)
              generalize WO117.alloc (.cells (bV F) 26) = WO118 at *
              refine hK' _ _ (HO118.out.1) ?_
              clear hK' K'
              go_simp
              refine wpAnyH_one (i := 6) (by kernel_rfl) rfl (by kernel_rfl) (fun K' hK' => ?_)
              go_simp
              refine (tree_any 1 (by omega) (some ⟨WO117.heap.size, 0, none⟩) (WO117.heap.size) 0 1 [F] _ (oneR hF (HO118.out.2.2.2.2.2.2.2.2.2)) (by omega) (HR.out.2.2.2.below (HO118.out.1))).mono ?_
              rintro e WO119 ⟨rfl, hb119⟩
              rw [bV_dg, ← HS.out.2.1]
              have HO119 := Lib.hid (show Below wr.heap.size wr WO119 ∧ _ ∧ _ ∧ _ ∧ _ ∧ _ ∧ _ ∧ _ ∧ _ ∧ _ from ⟨below_after HO118.out.1 hb119 HO118.out.1.size, HO118.out.2.1, blk_below HO118.out.2.2.1 hb119 (blk_lt HO118.out.2.2.1), HO118.out.2.2.2.1, HO118.out.2.2.2.2.1, blk_below HO118.out.2.2.2.2.2.1 hb119 (blk_lt HO118.out.2.2.2.2.2.1), HO118.out.2.2.2.2.2.2.1, HO118.out.2.2.2.2.2.2.2.1, HO118.out.2.2.2.2.2.2.2.2.1, blk_below HO118.out.2.2.2.2.2.2.2.2.2 hb119 (blk_lt HO118.out.2.2.2.2.2.2.2.2.2)⟩)
              clear hb119
              refine hK' _ _ (HO119.out.1) ?_
              clear hK' K'
              go_simp
              refine wpAnyH_one (i := 9) (by kernel_rfl) rfl (by kernel_rfl) (fun K' hK' => ?_)
              refine wp_store_row 26 (.tmp 7) (.tmp 25) (by kernel_rfl) WO97.heap.size (bV (dgL sA)) (by kernel_rfl) (by kernel_rfl) 26 _ HO119.out.2.2.2.2.2.1 (sz_in (dgL_len _)) (sz_eq zL_len (dgL_len _)) (bV_one _) ?_
              have hf5 := setRow_heap _ WO97.heap.size _ (bV (dgL sA)) 26 (0, 0) HO119.out.2.2.2.2.2.1
              have hf6 := (setRow_other WO119 WO97.heap.size wr.heap.size (bV (dgL sA)) HO119.out.2.2.2.1).trans HO119.out.2.2.1
              have hbw := below_setRow HO119.out.1 HO119.out.2.2.2.2.1 (bV (dgL sA))
              generalize WO119.setRow WO97.heap.size (bV (dgL sA)) = WZ at *
              refine hK' _ _ (hbw) ?_
              clear hK' K'
              go_simp
              refine wpAnyH_one (i := 10) (by kernel_rfl) rfl (by kernel_rfl) (fun K' hK' => ?_)
              refine wp_store_row 26 (.tmp 8) (.tmp 28) (by kernel_rfl) wr.heap.size (bV (dgL sB)) (by kernel_rfl) (by kernel_rfl) 26 _ hf6 (sz_in (dgL_len _)) (sz_eq zL_len (dgL_len _)) (bV_one _) ?_
              have hg6 := setRow_heap _ wr.heap.size _ (bV (dgL sB)) 26 (0, 0) hf6
              have hg5 := (setRow_other WZ wr.heap.size WO97.heap.size (bV (dgL sB)) (Ne.symm HO119.out.2.2.2.1)).trans hf5
              have hbw2 := below_setRow hbw HO119.out.2.1 (bV (dgL sB))
              have HM := Lib.hid (show TwoD (dgL sA) (dgL sB) wr (.pointer (some ⟨WO97.heap.size, 0, none⟩)) (.pointer (some ⟨wr.heap.size, 0, none⟩)) (WZ.setRow wr.heap.size (bV (dgL sB))) from ⟨_, _, rfl, rfl, hg5, hg6, hbw2, HO119.out.2.2.2.2.1, HO119.out.2.1, (Ne.symm HO119.out.2.2.2.1)⟩)
              generalize WZ.setRow wr.heap.size (bV (dgL sB)) = WY at *
              clear hg6 hg5 hf5 hf6 hbw
              refine hK' _ _ (hbw2) ?_
              clear hK' K'
              go_simp
              refine wpAnyH_done (by kernel_rfl) ?_ _
              refine NoPanic.normal ?_
              go_simp
              go_wp2_with fail
              go_meet
              case rel => exact HM.out
            · refine wp_build_D (.tmp 26) rfl F hF (by kernel_rfl) ?_
              have HO120 := Lib.hid (show Below wr.heap.size wr _ ∧ wr.heap.size ≤ wr.heap.size ∧ _ ∧ wr.heap.size ≠ WO97.heap.size ∧ wr.heap.size ≤ WO97.heap.size ∧ _ ∧ wr.heap.size ≠ WO116.heap.size ∧ WO97.heap.size ≠ WO116.heap.size ∧ wr.heap.size ≤ WO116.heap.size ∧ _ from ⟨HO116.out.1.alloc HO116.out.1.size (.cells (bV F) 26), HO116.out.2.1, blk_alloc HO116.out.2.2.1 (.cells (bV F) 26), HO116.out.2.2.2.1, HO116.out.2.2.2.2.1, blk_alloc HO116.out.2.2.2.2.2 (.cells (bV F) 26), other_block HO116.out.2.2.1 (Nat.le_refl _), other_block HO116.out.2.2.2.2.2 (Nat.le_refl _), HO116.out.1.size, blk_new WO116 (.cells (bV F) 26)⟩)
              generalize WO116.alloc (.cells (bV F) 26) = WO120 at *
              refine hK' _ _ (HO120.out.1) ?_
              clear hK' K'
              go_simp
              refine wpAnyH_one (i := 3) (by kernel_rfl) rfl (by kernel_rfl) (fun K' hK' => ?_)
              go_simp
              refine (tree_any k (by omega) (some ⟨lb, 0, none⟩) lb 0 lcap (L.take k) _ ((HR.out.2.1.take hkm hk0).below (HO120.out.1) (Nat.le_refl _)) (by omega) (HR.out.2.2.2.below (HO120.out.1))).mono ?_
              rintro e WO121 ⟨rfl, hb121⟩
              rw [bV_dg, ← HS.out.1]
              have HO121 := Lib.hid (show Below wr.heap.size wr WO121 ∧ _ ∧ _ ∧ _ ∧ _ ∧ _ ∧ _ ∧ _ ∧ _ ∧ _ from ⟨below_after HO120.out.1 hb121 HO120.out.1.size, HO120.out.2.1, blk_below HO120.out.2.2.1 hb121 (blk_lt HO120.out.2.2.1), HO120.out.2.2.2.1, HO120.out.2.2.2.2.1, blk_below HO120.out.2.2.2.2.2.1 hb121 (blk_lt HO120.out.2.2.2.2.2.1), HO120.out.2.2.2.2.2.2.1, HO120.out.2.2.2.2.2.2.2.1, HO120.out.2.2.2.2.2.2.2.2.1, blk_below HO120.out.2.2.2.2.2.2.2.2.2 hb121 (blk_lt HO120.out.2.2.2.2.2.2.2.2.2)⟩)
              clear hb121
              refine hK' _ _ (HO121.out.1) ?_
              clear hK' K'
              go_simp
              refine wpAnyH_one (i := 6) (by kernel_rfl) rfl (by kernel_rfl) (fun K' hK' => ?_)
              go_simp
              refine (tree_any 1 (by omega) (some ⟨WO116.heap.size, 0, none⟩) (WO116.heap.size) 0 1 [F] _ (oneR hF (HO121.out.2.2.2.2.2.2.2.2.2)) (by omega) (HR.out.2.2.2.below (HO121.out.1))).mono ?_
              rintro e WO122 ⟨rfl, hb122⟩
              rw [bV_dg, ← HS.out.2.1]
              have HO122 := Lib.hid (show Below wr.heap.size wr WO122 ∧ _ ∧ _ ∧ _ ∧ _ ∧ _ ∧ _ ∧ _ ∧ _ ∧ _ from ⟨below_after HO121.out.1 hb122 HO121.out.1.size, HO121.out.2.1, blk_below HO121.out.2.2.1 hb122 (blk_lt HO121.out.2.2.1), HO121.out.2.2.2.1, HO121.out.2.2.2.2.1, blk_below HO121.out.2.2.2.2.2.1 hb122 (blk_lt HO121.out.2.2.2.2.2.1), HO121.out.2.2.2.2.2.2.1, HO121.out.2.2.2.2.2.2.2.1, HO121.out.2.2.2.2.2.2.2.2.1, blk_below HO121.out.2.2.2.2.2.2.2.2.2 hb122 (blk_lt HO121.out.2.2.2.2.2.2.2.2.2)⟩)
              clear hb122
              refine hK' _ _ (HO122.out.1) ?_
              clear hK' K'
              go_simp
              refine wpAnyH_one (i := 9) (by kernel_rfl) rfl (by kernel_rfl) (fun K' hK' => ?_)
              refine wp_store_row 26 (.tmp 7) (.tmp 25) (by kernel_rfl) WO97.heap.size (bV (dgL sA)) (by kernel_rfl) (by kernel_rfl) 26 _ HO122.out.2.2.2.2.2.1 (sz_in (dgL_len _)) (sz_eq zL_len (dgL_len _)) (bV_one _) ?_
              have hf5 := setRow_heap _ WO97.heap.size _ (bV (dgL sA)) 26 (0, 0) HO122.out.2.2.2.2.2.1
              have hf6 := (setRow_other WO122 WO97.heap.size wr.heap.size (bV (dgL sA)) HO122.out.2.2.2.1).trans HO122.out.2.2.1
              have hbw := below_setRow HO122.out.1 HO122.out.2.2.2.2.1 (bV (dgL sA))
              generalize WO122.setRow WO97.heap.size (bV (dgL sA)) = WZ at *
              refine hK' _ _ (hbw) ?_
              clear hK' K'
              go_simp
              refine wpAnyH_one (i := 10) (by kernel_rfl) rfl (by kernel_rfl) (fun K' hK' => ?_)
              refine wp_store_row 26 (.tmp 8) (.tmp 28) (by kernel_rfl) wr.heap.size (bV (dgL sB)) (by kernel_rfl) (by kernel_rfl) 26 _ hf6 (sz_in (dgL_len _)) (sz_eq zL_len (dgL_len _)) (bV_one _) ?_
              have hg6 := setRow_heap _ wr.heap.size _ (bV (dgL sB)) 26 (0, 0) hf6
              have hg5 := (setRow_other WZ wr.heap.size WO97.heap.size (bV (dgL sB)) (Ne.symm HO122.out.2.2.2.1)).trans hf5
              have hbw2 := below_setRow hbw HO122.out.2.1 (bV (dgL sB))
              have HM := Lib.hid (show TwoD (dgL sA) (dgL sB) wr (.pointer (some ⟨WO97.heap.size, 0, none⟩)) (.pointer (some ⟨wr.heap.size, 0, none⟩)) (WZ.setRow wr.heap.size (bV (dgL sB))) from ⟨_, _, rfl, rfl, hg5, hg6, hbw2, HO122.out.2.2.2.2.1, HO122.out.2.1, (Ne.symm HO122.out.2.2.2.1)⟩)
              generalize WZ.setRow wr.heap.size (bV (dgL sB)) = WY at *
              clear hg6 hg5 hf5 hf6 hbw
              refine hK' _ _ (hbw2) ?_
              clear hK' K'
              go_simp
              refine wpAnyH_done (by kernel_rfl) ?_ _
              refine NoPanic.normal ?_
              go_simp
              go_wp2_with fail
              go_meet
              case rel => exact HM.out
      case rest =>
        obtain ⟨b7, b8, rfl, rfl, h7, h8, hbx, _, _, _⟩ := hcut
        have hbw := HBr.out.trans (hbx.mono HBr.out.size)
        have HC := Lib.hid (show wc.heap[w.heap.size]? = _ ∧ DigR wc (some ⟨lb, 0, none⟩) lb 0 m L ∧ wc.heap[b7]? = _ ∧ wc.heap[b8]? = _ ∧ Keys wc ∧ Below W1.heap.size W1 wc from ⟨blk_below HR.out.1 hbx (blk_lt HR.out.1), HR.out.2.1.below hbx (Nat.le_refl _), h7, h8, HR.out.2.2.2.below hbx, hbw⟩)
        clear h7 h8 hbx hbw HR HBr
        go_upto_region 8 with fail
        go_cut [9] from 22 (fun s9 wx => DgsO wx wc.heap.size s9 (L.take k ++ [F]) ∧ Below wc.heap.size wc wx)
        case first =>
          refine wp_region_from 1 3 (fun w' => Below wc.heap.size wc w') (by kernel_rfl) (by kernel_rfl) (by decide) (by kernel_rfl) ((Below.refl _ _).drew) ?_
          simp only [List.drop_succ_cons, List.drop_zero, List.take_succ_cons, List.take_zero]
          refine wpHeld_cons (.slice (some ⟨lb, 0, none⟩) m lcap) (by kernel_rfl) ?_ ?_
          · rintro w' -
            try go_simp
          refine wpHeld_cons (.int .i64 k) (by kernel_rfl) ?_ ?_
          · rintro w' -
            try go_simp
          refine wpHeld_cons (.slice (some ⟨lb, 0, none⟩) k lcap) (by kernel_rfl) ?_ ?_
          · rintro w' -
            try go_simp
          refine wpHeld_nil ?_
          refine wpAnyH_from (fuel := 5) 5 1 (fun _ _ _ _ _ h => h) (by kernel_rfl) (by decide) (by kernel_rfl) ((Below.refl _ _).drew) ?_
          simp only [List.drop_succ_cons, List.drop_zero, List.take_succ_cons, List.take_zero]
          refine wpHeld_load (.tmp 3) (by kernel_rfl) (by kernel_rfl) (w.heap.size) (0) (by kernel_rfl) (F) hF (fun w' hS => (RowB.of_bV hF (blk_below HC.out.1 hS (blk_lt HC.out.1))).range) ?_
          refine wpHeld_nil ?_
          go_simp
          have H0 := Lib.hid (show Below wc.heap.size wc wc.drew from (Below.refl _ _).drew)
          refine wpAnyH_two (i := 0) (j := 6) (by kernel_rfl) rfl rfl (by kernel_rfl) (by kernel_rfl) (fun K' hK' => ?_) (fun K' hK' => ?_)
          · go_simp
            have HO1 := Lib.hid (show Below wc.heap.size wc _ ∧ _ from ⟨((Below.refl wc.heap.size wc).alloc (Nat.le_refl _) (.cells #[] 26)).drew, ((DgsO.empty wc).below (Below.refl _ _).drew (Nat.le_refl _))⟩)
            generalize (wc.alloc (.cells #[] 26)).drew = WO1 at *
            refine hK' _ _ (HO1.out.1) ?_
            clear hK' K'
            go_simp
            refine wpAnyH_two (i := 4) (j := 6) (by kernel_rfl) rfl rfl (by kernel_rfl) (by kernel_rfl) (fun K' hK' => ?_) (fun K' hK' => ?_)
            · refine wp_append_D0 (.tmp 29) (.tmp 32) rfl wc.heap.size (wc.heap.size) (by kernel_rfl) HO1.out.2 (some ⟨lb, 0, none⟩) lb 0 k lcap (L.take k) (by kernel_rfl) ((HC.out.2.1.take hkm hk0).below (HO1.out.1) (Nat.le_refl _)) (fun h => by cases h) (by omega) HO1.out.1.size ?_
              intro v2 WO2 hO2 hb2 hn2
              have HO2 := Lib.hid (show Below wc.heap.size wc WO2 ∧ _ from ⟨below_after HO1.out.1 hb2 HO1.out.1.size, hO2⟩)
              clear hO2 hb2 hn2
              refine hK' _ _ (HO2.out.1) ?_
              clear hK' K'
              go_simp
              refine wpAnyH_one (i := 6) (by kernel_rfl) rfl (by kernel_rfl) (fun K' hK' => ?_)
              refine wp_build_D (.tmp 34) rfl F hF (by kernel_rfl) ?_
              have HO3 := Lib.hid (show Below wc.heap.size wc _ ∧ _ ∧ wc.heap.size ≤ WO2.heap.size ∧ _ ∧ _ from ⟨HO2.out.1.alloc HO2.out.1.size (.cells (bV F) 26), (HO2.out.2).alloc (.cells (bV F) 26), HO2.out.1.size, blk_new WO2 (.cells (bV F) 26), own_ne_new HO2.out.2⟩)
              generalize WO2.alloc (.cells (bV F) 26) = WO3 at *
              refine hK' _ _ (HO3.out.1) ?_
              clear hK' K'
              go_simp
              refine wpAnyH_one (i := 7) (by kernel_rfl) rfl (by kernel_rfl) (fun K' hK' => ?_)
              refine wp_append_D (.tmp 33) (.tmp 35) rfl wc.heap.size v2 (L.take k) (by kernel_rfl) HO3.out.2.1 (WO2.heap.size) F hF 1 (by kernel_rfl) _ _ HO3.out.2.2.2.1 (by rw [List.length_take]; omega) HO3.out.1.size ?_
              intro v4 WO4 hO4 hb4 hn4
              have HO4 := Lib.hid (show Below wc.heap.size wc WO4 ∧ _ ∧ _ from ⟨below_trans' HO3.out.1 hb4, hO4, HO3.out.2.2.1⟩)
              clear hO4 hb4 hn4
              refine hK' _ _ (HO4.out.1) ?_
              clear hK' K'
              go_simp
              refine wpAnyH_one (i := 8) (by kernel_rfl) rfl (by kernel_rfl) (fun K' hK' => ?_)
              go_simp
              have HM := Lib.hid (show DgsO WO4 wc.heap.size v4 (L.take k ++ [F]) ∧ Below wc.heap.size wc WO4 from ⟨HO4.out.2.1, HO4.out.1⟩)
              refine hK' _ _ (HO4.out.1) ?_
              clear hK' K'
              go_simp
              refine wpAnyH_done (by kernel_rfl) ?_ _
              refine NoPanic.normal ?_
              go_simp
              go_wp2_with fail
              go_meet
              case rel => exact HM.out
            · refine wp_build_D (.tmp 34) rfl F hF (by kernel_rfl) ?_
              have HO5 := Lib.hid (show Below wc.heap.size wc _ ∧ _ ∧ wc.heap.size ≤ WO1.heap.size ∧ _ ∧ _ from ⟨HO1.out.1.alloc HO1.out.1.size (.cells (bV F) 26), (HO1.out.2).alloc (.cells (bV F) 26), HO1.out.1.size, blk_new WO1 (.cells (bV F) 26), own_ne_new HO1.out.2⟩)
              generalize WO1.alloc (.cells (bV F) 26) = WO5 at *
              refine hK' _ _ (HO5.out.1) ?_
              clear hK' K'
              go_simp
              refine wpAnyH_one (i := 4) (by kernel_rfl) rfl (by kernel_rfl) (fun K' hK' => ?_)
              refine wp_append_D0 (.tmp 29) (.tmp 32) rfl wc.heap.size (wc.heap.size) (by kernel_rfl) HO5.out.2.1 (some ⟨lb, 0, none⟩) lb 0 k lcap (L.take k) (by kernel_rfl) ((HC.out.2.1.take hkm hk0).below (HO5.out.1) (Nat.le_refl _)) (fun h => by cases h) (by omega) HO5.out.1.size ?_
              intro v6 WO6 hO6 hb6 hn6
              have HO6 := Lib.hid (show Below wc.heap.size wc WO6 ∧ _ ∧ _ ∧ _ ∧ _ from ⟨below_after HO5.out.1 hb6 HO5.out.1.size, hO6, HO5.out.2.2.1, blk_below HO5.out.2.2.2.1 hb6 (blk_lt HO5.out.2.2.2.1), hn6 _ (blk_lt HO5.out.2.2.2.1) HO5.out.2.2.2.2⟩)
              clear hO6 hb6 hn6
              refine hK' _ _ (HO6.out.1) ?_
              clear hK' K'
              go_simp
              refine wpAnyH_one (i := 7) (by kernel_rfl) rfl (by kernel_rfl) (fun K' hK' => ?_)
              refine wp_append_D (.tmp 33) (.tmp 35) rfl wc.heap.size v6 (L.take k) (by kernel_rfl) HO6.out.2.1 (WO1.heap.size) F hF 1 (by kernel_rfl) _ _ HO6.out.2.2.2.1 (by rw [List.length_take]; omega) HO6.out.1.size ?_
              intro v7 WO7 hO7 hb7 hn7
              have HO7 := Lib.hid (show Below wc.heap.size wc WO7 ∧ _ ∧ _ from ⟨below_trans' HO6.out.1 hb7, hO7, HO6.out.2.2.1⟩)
              clear hO7 hb7 hn7
              refine hK' _ _ (HO7.out.1) ?_
              clear hK' K'
              go_simp
              refine wpAnyH_one (i := 8) (by kernel_rfl) rfl (by kernel_rfl) (fun K' hK' => ?_)
              go_simp
              have HM := Lib.hid (show DgsO WO7 wc.heap.size v7 (L.take k ++ [F]) ∧ Below wc.heap.size wc WO7 from ⟨HO7.out.2.1, HO7.out.1⟩)
              refine hK' _ _ (HO7.out.1) ?_
              clear hK' K'
              go_simp
              refine wpAnyH_done (by kernel_rfl) ?_ _
              refine NoPanic.normal ?_
              go_simp
              go_wp2_with fail
              go_meet
              case rel => exact HM.out
          · refine wp_build_D (.tmp 34) rfl F hF (by kernel_rfl) ?_
            rw [show wc.drew.alloc (.cells (bV F) 26) = (wc.alloc (.cells (bV F) 26)).drew from rfl]
            have HO8 := Lib.hid (show Below wc.heap.size wc _ ∧ wc.heap.size ≤ wc.heap.size ∧ _ from ⟨((Below.refl wc.heap.size wc).alloc (Nat.le_refl _) (.cells (bV F) 26)).drew, Nat.le_refl _, blk_drew (blk_new wc (.cells (bV F) 26))⟩)
            generalize (wc.alloc (.cells (bV F) 26)).drew = WO8 at *
            refine hK' _ _ (HO8.out.1) ?_
            clear hK' K'
            go_simp
            refine wpAnyH_one (i := 0) (by kernel_rfl) rfl (by kernel_rfl) (fun K' hK' => ?_)
            go_simp
            have HO9 := Lib.hid (show Below wc.heap.size wc _ ∧ wc.heap.size ≤ wc.heap.size ∧ _ ∧ _ ∧ _ from ⟨HO8.out.1.alloc HO8.out.1.size (.cells #[] 26), HO8.out.2.1, blk_alloc HO8.out.2.2 (.cells #[] 26), (DgsO.empty WO8).mono (B' := wc.heap.size) HO8.out.1.size, new_ne (blk_lt HO8.out.2.2)⟩)
            generalize WO8.alloc (.cells #[] 26) = WO9 at *
            refine hK' _ _ (HO9.out.1) ?_
            clear hK' K'
            go_simp
            refine wpAnyH_one (i := 4) (by kernel_rfl) rfl (by kernel_rfl) (fun K' hK' => ?_)
            refine wp_append_D0 (.tmp 29) (.tmp 32) rfl wc.heap.size (WO8.heap.size) (by kernel_rfl) HO9.out.2.2.2.1 (some ⟨lb, 0, none⟩) lb 0 k lcap (L.take k) (by kernel_rfl) ((HC.out.2.1.take hkm hk0).below (HO9.out.1) (Nat.le_refl _)) (fun h => by cases h) (by omega) HO9.out.1.size ?_
            intro v10 WO10 hO10 hb10 hn10
            have HO10 := Lib.hid (show Below wc.heap.size wc WO10 ∧ _ ∧ _ ∧ _ ∧ _ from ⟨below_after HO9.out.1 hb10 HO9.out.1.size, HO9.out.2.1, blk_below HO9.out.2.2.1 hb10 (blk_lt HO9.out.2.2.1), hO10, hn10 _ (blk_lt HO9.out.2.2.1) HO9.out.2.2.2.2⟩)
            clear hO10 hb10 hn10
            refine hK' _ _ (HO10.out.1) ?_
            clear hK' K'
            go_simp
            refine wpAnyH_one (i := 7) (by kernel_rfl) rfl (by kernel_rfl) (fun K' hK' => ?_)
            refine wp_append_D (.tmp 33) (.tmp 35) rfl wc.heap.size v10 (L.take k) (by kernel_rfl) HO10.out.2.2.2.1 (wc.heap.size) F hF 1 (by kernel_rfl) _ _ HO10.out.2.2.1 (by rw [List.length_take]; omega) HO10.out.1.size ?_
            intro v11 WO11 hO11 hb11 hn11
            have HO11 := Lib.hid (show Below wc.heap.size wc WO11 ∧ _ ∧ _ from ⟨below_trans' HO10.out.1 hb11, HO10.out.2.1, hO11⟩)
            clear hO11 hb11 hn11
            refine hK' _ _ (HO11.out.1) ?_
            clear hK' K'
            go_simp
            refine wpAnyH_one (i := 8) (by kernel_rfl) rfl (by kernel_rfl) (fun K' hK' => ?_)
            go_simp
            have HM := Lib.hid (show DgsO WO11 wc.heap.size v11 (L.take k ++ [F]) ∧ Below wc.heap.size wc WO11 from ⟨HO11.out.2.2, HO11.out.1⟩)
            refine hK' _ _ (HO11.out.1) ?_
            clear hK' K'
            go_simp
            refine wpAnyH_done (by kernel_rfl) ?_ _
            refine NoPanic.normal ?_
            go_simp
            go_wp2_with fail
            go_meet
            case rel => exact HM.out
        case rest =>
          obtain ⟨hO, hbx⟩ := hcut
          obtain ⟨qa, qb, qc, rfl, hQ, hqn, hqc, _, _⟩ := hO.s
          rw [HS.out.2.2.2.2.2.2] at hQ hqc ⊢
          obtain rfl := hQ.adr (by omega)
          have HC2 := Lib.hid (show DigR _ _ qb 0 (k + 1) (L.take k ++ [F]) ∧ wc.heap[b7]? = _ ∧ wc.heap[b8]? = _ ∧ Keys wc ∧ Below W1.heap.size W1 wc from ⟨hQ, blk_below HC.out.2.2.1 hbx (blk_lt HC.out.2.2.1), blk_below HC.out.2.2.2.1 hbx (blk_lt HC.out.2.2.2.1), HC.out.2.2.2.2.1.below hbx, HC.out.2.2.2.2.2.trans (hbx.mono HC.out.2.2.2.2.2.size)⟩)
          clear hQ hO hbx HC hqn
          go_wp2_with fail
          refine (path_any _ qb 0 (k + 1) qc (L.take k ++ [F]) (k : Int) wc HC2.out.1 (by omega) hqc HC2.out.2.2.2.1).mono ?_
          rintro e WQ ⟨hP, hbP⟩
          obtain ⟨v, rfl, hO⟩ : ∃ v, e = .returned (.tuple #[v, .int .i64 0]) ∧ DgsO WQ wc.heap.size v [dgL sA] := by
            rcases hP with ⟨j, h1, _, v, h2, h3⟩ | ⟨h, _⟩
            · obtain rfl : j = k := by omega
              rw [HS.out.2.2.2.2.1] at h3
              exact ⟨v, h2, h3⟩
            · omega
          obtain ⟨pa, pb, pcap, rfl, hPr, _, hpc, _, _⟩ := hO.s
          have e1 : ([dgL sA] : List (List Int)).length = 1 := rfl
          rw [e1] at hPr hpc ⊢
          obtain rfl := hPr.adr (by omega)
          have HD := Lib.hid (show DigR WQ _ qb 0 (k + 1) (L.take k ++ [F]) ∧ DigR WQ _ pb 0 1 [dgL sA] ∧ WQ.heap[b7]? = _ ∧ WQ.heap[b8]? = _ ∧ Keys WQ ∧ Below W1.heap.size W1 WQ from ⟨HC2.out.1.below hbP (Nat.le_refl _), hPr, blk_below HC2.out.2.1 hbP (blk_lt HC2.out.2.1), blk_below HC2.out.2.2.1 hbP (blk_lt HC2.out.2.2.1), HC2.out.2.2.2.1.below hbP, HC2.out.2.2.2.2.trans (hbP.mono HC2.out.2.2.2.2.size)⟩)
          clear hP hO hPr hbP HC2 e1
          have n1 : ((1 : Nat) : Int) = 1 := rfl
          go_upto_region 10 with fail
          refine wp_region_from 0 1 (fun w' => Below WQ.heap.size WQ w') (by kernel_rfl) (by kernel_rfl) (by decide) (by kernel_rfl) ((Below.refl _ _).drew) ?_
          simp only [List.drop_zero, List.take_succ_cons, List.take_zero]
          refine wpHeld_cons (.slice (some ⟨qb, 0, none⟩) (k + 1 : Nat) qc) (by kernel_rfl) ?_ ?_
          · rintro w' -
            try go_simp
          refine wpHeld_nil ?_
          refine wpAnyH_from (fuel := 23) 3 1 (fun _ _ _ _ _ h => h) (by kernel_rfl) (by decide) (by kernel_rfl) ((Below.refl _ _).drew) ?_
          simp only [List.drop_succ_cons, List.drop_zero, List.take_succ_cons, List.take_zero]
          refine wpHeld_cons (.slice (some ⟨b7, 0, none⟩) 32 32) (by kernel_rfl) ?_ ?_
          · rintro w' -
            try go_simp
          refine wpHeld_nil ?_
          refine wpAnyH_from (fuel := 22) 5 1 (fun _ _ _ _ _ h => h) (by kernel_rfl) (by decide) (by kernel_rfl) ((Below.refl _ _).drew) ?_
          simp only [List.drop_succ_cons, List.drop_zero, List.take_succ_cons, List.take_zero]
          refine wpHeld_cons (.slice (some ⟨b8, 0, none⟩) 32 32) (by kernel_rfl) ?_ ?_
          · rintro w' -
            try go_simp
          refine wpHeld_nil ?_
          go_simp
          refine wpAnyH_two (i := 1) (j := 2) (by kernel_rfl) rfl rfl (by kernel_rfl) (by kernel_rfl) (fun K' hK' => ?_) (fun K' hK' => ?_)
          · go_simp
            refine (tree_any (k + 1) (by omega) (some ⟨qb, 0, none⟩) qb 0 qc (L.take k ++ [F]) _ (HD.out.1.below (((Below.refl _ _).drew)) (Nat.le_refl _)) hqc (HD.out.2.2.2.2.1.below (((Below.refl _ _).drew)))).mono ?_
            rintro e W2 ⟨rfl, hb2⟩
            rw [bV_dg, HS.out.2.2.2.1]
            have HX := Lib.hid (show Below WQ.heap.size WQ W2 from below_after (Below.refl _ _).drew hb2 (Nat.le_refl _))
            clear hb2
            refine hK' _ _ (HX.out) ?_
            clear hK' K'
            go_simp
            refine wpAnyH_one (i := 2) (by kernel_rfl) rfl (by kernel_rfl) (fun K' hK' => ?_)
            go_simp
            have hby := (Byts.empty W2).mono (B' := WQ.heap.size) HX.out.size
            have hbe := HX.out.alloc HX.out.size (.cells #[] 5)
            generalize W2.alloc (.cells #[] 5) = W3 at *
            have HZ := Lib.hid (show Below WQ.heap.size WQ W3 ∧ Byts W3 WQ.heap.size _ [] from ⟨hbe, hby⟩)
            clear hby hbe
            refine hK' _ _ (HZ.out.1) ?_
            clear hK' K'
            go_simp
            refine wpAnyH_one (i := 4) (by kernel_rfl) rfl (by kernel_rfl) (fun K' hK' => ?_)
            refine wp_append_brow (.tmp 45) (.tmp 46) rfl WQ.heap.size _ [] (by kernel_rfl) HZ.out.2 _ (b7) 0 32 32 (dgL sA) (by kernel_rfl) (RowB.of_bV (dgL_len _) (blk_below HD.out.2.2.1 HZ.out.1 (Array.getElem?_eq_some_iff.1 HD.out.2.2.1).1)) (fun h => by cases h) (by decide) HZ.out.1.size ?_
            intro v5 W5 hO5 hb5 _
            have HX5 := Lib.hid (show Below WQ.heap.size WQ W5 ∧ Byts W5 WQ.heap.size v5 (dgL sA) from ⟨below_trans' HZ.out.1 hb5, hO5⟩)
            clear hO5 hb5
            refine hK' _ _ (HX5.out.1) ?_
            clear hK' K'
            go_simp
            refine wpAnyH_one (i := 6) (by kernel_rfl) rfl (by kernel_rfl) (fun K' hK' => ?_)
            refine wp_append_brow (.tmp 47) (.tmp 48) (by kernel_rfl) WQ.heap.size v5 (dgL sA) (by kernel_rfl) HX5.out.2 _ (b8) 0 32 32 (dgL sB) (by kernel_rfl) (RowB.of_bV (dgL_len _) (blk_below HD.out.2.2.2.1 HX5.out.1 (Array.getElem?_eq_some_iff.1 HD.out.2.2.2.1).1)) (fun h => by cases h) (by rw [dgL_len]; decide) HX5.out.1.size ?_
            intro v6 W6 hO6 hb6 _
            have HX6 := Lib.hid (show Below WQ.heap.size WQ W6 ∧ Byts W6 WQ.heap.size v6 ((dgL sA) ++ (dgL sB)) from ⟨below_trans' HX5.out.1 hb6, hO6⟩)
            clear hO6 hb6 HX5
            refine hK' _ _ (HX6.out.1) ?_
            clear hK' K'
            go_simp
            obtain ⟨a6, b6', c6, rfl, hR6, hc6, _⟩ := HX6.out.2.row
            have hl6 : ((dgL sA) ++ (dgL sB)).length = 64 := by rw [List.length_append, dgL_len, dgL_len]
            rw [hl6] at hR6 hc6 ⊢
            refine wpAnyH_one (i := 7) (by kernel_rfl) rfl (by kernel_rfl) (fun K' hK' => ?_)
            go_simp
            refine (tagged_any ⟨#[110, 111, 100, 101]⟩ a6 b6' 0 64 c6 ((dgL sA) ++ (dgL sB)) W6 (HD.out.2.2.2.2.1.below HX6.out.1) hR6 (fun h => by have h2 := hR6.adr (by decide); rw [h] at h2; cases h2) (by decide) (by decide)).mono ?_
            rintro e W7 ⟨rfl, hb7⟩
            rw [bV_dg, ← HS.out.2.2.1]
            have HY := Lib.hid (show Below WQ.heap.size WQ W7 from below_after HX6.out.1 hb7 HX6.out.1.size)
            clear hb7 HX6
            refine hK' _ _ (HY.out) ?_
            clear hK' K'
            go_simp
            refine wpAnyH_from (fuel := 0) 8 17 (fun _ _ _ _ _ h => h) (by kernel_rfl) (by decide) (by kernel_rfl) (HY.out) ?_
            simp only [List.drop_succ_cons, List.drop_zero, List.take_succ_cons, List.take_zero]
            refine wpHeld_cons (.bool false) (by kernel_rfl) ?_ ?_
            · rintro w' -
              try go_simp
              rw [run_eq_D (dgL sR) (dgL sR) (dgL_len _) (dgL_len _), decide_eq_true rfl]
              go_simp
            refine wpHeld_cons (.bool false) (by kernel_rfl) ?_ ?_
            · rintro w' -
              try go_simp
            refine wpHeld_cons (.int .i64 0) (by kernel_rfl) ?_ ?_
            · rintro w' -
              try go_simp
            refine wpHeld_cons (.bool false) (by kernel_rfl) ?_ ?_
            · rintro w' -
              try go_simp
            refine wpHeld_cons (.bool false) (by kernel_rfl) ?_ ?_
            · rintro w' -
              try go_simp
            refine wpHeld_cons (.bool false) (by kernel_rfl) ?_ ?_
            · rintro w' -
              try go_simp
            refine wpHeld_cons (.slice (some ⟨pb, 0, none⟩) 1 pcap) (by kernel_rfl) ?_ ?_
            · rintro w' -
              try go_simp
            refine wpHeld_cons (.int .i64 1) (by kernel_rfl) ?_ ?_
            · rintro w' -
              try go_simp
            refine wpHeld_cons (.bool false) (by kernel_rfl) ?_ ?_
            · rintro w' -
              try go_simp
            refine wpHeld_cons (.bool false) (by kernel_rfl) ?_ ?_
            · rintro w' -
              try go_simp
            refine wpHeld_cons (.bool false) (by kernel_rfl) ?_ ?_
            · rintro w' -
              try go_simp
            refine wpHeld_cons (.slice (some ⟨pb, 0, none⟩) 1 pcap) (by kernel_rfl) ?_ ?_
            · rintro w' -
              try go_simp
            refine wpHeld_cons (.pointer (some ⟨pb, 0, none⟩)) (by kernel_rfl) ?_ ?_
            · rintro w' -
              try go_simp
            refine wpHeld_load (.tmp 63) (by kernel_rfl) (by kernel_rfl) (pb) (0) (by kernel_rfl) ((dgL sA)) (dgL_len _) (fun w' hS => ((HD.out.2.1.below hS (Nat.le_refl _)).elem0 (D := dgL sA) (i := 0) (by decide) rfl)) ?_
            refine wpHeld_load (.tmp 7) (by kernel_rfl) (by kernel_rfl) (b7) (0) (by kernel_rfl) ((dgL sA)) (dgL_len _) (fun w' hS => (RowB.of_bV (dgL_len _) (blk_below HD.out.2.2.1 hS (blk_lt HD.out.2.2.1))).range) ?_
            refine wpHeld_cons (.bool false) (by kernel_rfl) ?_ ?_
            · rintro w' -
              try go_simp
              rw [run_eq_D (dgL sA) (dgL sA) (dgL_len _) (dgL_len _), decide_eq_true rfl]
              go_simp
            refine wpHeld_cons (.bool false) (by kernel_rfl) ?_ ?_
            · rintro w' -
              try go_simp
            refine wpHeld_nil ?_
            go_simp
            refine wpAnyH_done (by kernel_rfl) ?_ _
            refine NoPanic.normal ?_
            go_simp
            have hfin := HD.out.2.2.2.2.2.trans (HY.out.mono HD.out.2.2.2.2.2.size)
            go_wp2_with fail
            go_roundw
            case rel => exact ⟨k * 2, hdb.out, by omega, by go_num, hfin⟩
            case measure => simp [intOf]; omega
          · go_simp
            have hby := (Byts.empty WQ).drew
            have hbe := ((Below.refl WQ.heap.size WQ).alloc (Nat.le_refl _) (.cells #[] 5)).drew
            generalize (WQ.alloc (.cells #[] 5)).drew = W3 at *
            have HX := Lib.hid (show Below WQ.heap.size WQ W3 ∧ Byts W3 WQ.heap.size _ [] from ⟨hbe, hby⟩)
            clear hby hbe
            refine hK' _ _ (HX.out.1) ?_
            clear hK' K'
            go_simp
            refine wpAnyH_one (i := 1) (by kernel_rfl) rfl (by kernel_rfl) (fun K' hK' => ?_)
            go_simp
            refine (tree_any (k + 1) (by omega) (some ⟨qb, 0, none⟩) qb 0 qc (L.take k ++ [F]) _ (HD.out.1.below (HX.out.1) (Nat.le_refl _)) hqc (HD.out.2.2.2.2.1.below (HX.out.1))).mono ?_
            rintro e W2 ⟨rfl, hb2⟩
            rw [bV_dg, HS.out.2.2.2.1]
            have HZ := Lib.hid (show Below WQ.heap.size WQ W2 ∧ Byts W2 WQ.heap.size _ [] from ⟨below_after HX.out.1 hb2 HX.out.1.size, HX.out.2.below hb2 (Nat.le_refl _)⟩)
            clear hb2
            refine hK' _ _ (HZ.out.1) ?_
            clear hK' K'
            go_simp
            refine wpAnyH_one (i := 4) (by kernel_rfl) rfl (by kernel_rfl) (fun K' hK' => ?_)
            refine wp_append_brow (.tmp 45) (.tmp 46) rfl WQ.heap.size _ [] (by kernel_rfl) HZ.out.2 _ (b7) 0 32 32 (dgL sA) (by kernel_rfl) (RowB.of_bV (dgL_len _) (blk_below HD.out.2.2.1 HZ.out.1 (Array.getElem?_eq_some_iff.1 HD.out.2.2.1).1)) (fun h => by cases h) (by decide) HZ.out.1.size ?_
            intro v5 W5 hO5 hb5 _
            have HX5 := Lib.hid (show Below WQ.heap.size WQ W5 ∧ Byts W5 WQ.heap.size v5 (dgL sA) from ⟨below_trans' HZ.out.1 hb5, hO5⟩)
            clear hO5 hb5
            refine hK' _ _ (HX5.out.1) ?_
            clear hK' K'
            go_simp
            refine wpAnyH_one (i := 6) (by kernel_rfl) rfl (by kernel_rfl) (fun K' hK' => ?_)
            refine wp_append_brow (.tmp 47) (.tmp 48) (by kernel_rfl) WQ.heap.size v5 (dgL sA) (by kernel_rfl) HX5.out.2 _ (b8) 0 32 32 (dgL sB) (by kernel_rfl) (RowB.of_bV (dgL_len _) (blk_below HD.out.2.2.2.1 HX5.out.1 (Array.getElem?_eq_some_iff.1 HD.out.2.2.2.1).1)) (fun h => by cases h) (by rw [dgL_len]; decide) HX5.out.1.size ?_
            intro v6 W6 hO6 hb6 _
            have HX6 := Lib.hid (show Below WQ.heap.size WQ W6 ∧ Byts W6 WQ.heap.size v6 ((dgL sA) ++ (dgL sB)) from ⟨below_trans' HX5.out.1 hb6, hO6⟩)
            clear hO6 hb6 HX5
            refine hK' _ _ (HX6.out.1) ?_
            clear hK' K'
            go_simp
            obtain ⟨a6, b6', c6, rfl, hR6, hc6, _⟩ := HX6.out.2.row
            have hl6 : ((dgL sA) ++ (dgL sB)).length = 64 := by rw [List.length_append, dgL_len, dgL_len]
            rw [hl6] at hR6 hc6 ⊢
            refine wpAnyH_one (i := 7) (by kernel_rfl) rfl (by kernel_rfl) (fun K' hK' => ?_)
            go_simp
            refine (tagged_any ⟨#[110, 111, 100, 101]⟩ a6 b6' 0 64 c6 ((dgL sA) ++ (dgL sB)) W6 (HD.out.2.2.2.2.1.below HX6.out.1) hR6 (fun h => by have h2 := hR6.adr (by decide); rw [h] at h2; cases h2) (by decide) (by decide)).mono ?_
            rintro e W7 ⟨rfl, hb7⟩
            rw [bV_dg, ← HS.out.2.2.1]
            have HY := Lib.hid (show Below WQ.heap.size WQ W7 from below_after HX6.out.1 hb7 HX6.out.1.size)
            clear hb7 HX6
            refine hK' _ _ (HY.out) ?_
            clear hK' K'
            go_simp
            refine wpAnyH_from (fuel := 0) 8 17 (fun _ _ _ _ _ h => h) (by kernel_rfl) (by decide) (by kernel_rfl) (HY.out) ?_
            simp only [List.drop_succ_cons, List.drop_zero, List.take_succ_cons, List.take_zero]
            refine wpHeld_cons (.bool false) (by kernel_rfl) ?_ ?_
            · rintro w' -
              try go_simp
              rw [run_eq_D (dgL sR) (dgL sR) (dgL_len _) (dgL_len _), decide_eq_true rfl]
              go_simp
            refine wpHeld_cons (.bool false) (by kernel_rfl) ?_ ?_
            · rintro w' -
              try go_simp
            refine wpHeld_cons (.int .i64 0) (by kernel_rfl) ?_ ?_
            · rintro w' -
              try go_simp
            refine wpHeld_cons (.bool false) (by kernel_rfl) ?_ ?_
            · rintro w' -
              try go_simp
            refine wpHeld_cons (.bool false) (by kernel_rfl) ?_ ?_
            · rintro w' -
              try go_simp
            refine wpHeld_cons (.bool false) (by kernel_rfl) ?_ ?_
            · rintro w' -
              try go_simp
            refine wpHeld_cons (.slice (some ⟨pb, 0, none⟩) 1 pcap) (by kernel_rfl) ?_ ?_
            · rintro w' -
              try go_simp
            refine wpHeld_cons (.int .i64 1) (by kernel_rfl) ?_ ?_
            · rintro w' -
              try go_simp
            refine wpHeld_cons (.bool false) (by kernel_rfl) ?_ ?_
            · rintro w' -
              try go_simp
            refine wpHeld_cons (.bool false) (by kernel_rfl) ?_ ?_
            · rintro w' -
              try go_simp
            refine wpHeld_cons (.bool false) (by kernel_rfl) ?_ ?_
            · rintro w' -
              try go_simp
            refine wpHeld_cons (.slice (some ⟨pb, 0, none⟩) 1 pcap) (by kernel_rfl) ?_ ?_
            · rintro w' -
              try go_simp
            refine wpHeld_cons (.pointer (some ⟨pb, 0, none⟩)) (by kernel_rfl) ?_ ?_
            · rintro w' -
              try go_simp
            refine wpHeld_load (.tmp 63) (by kernel_rfl) (by kernel_rfl) (pb) (0) (by kernel_rfl) ((dgL sA)) (dgL_len _) (fun w' hS => ((HD.out.2.1.below hS (Nat.le_refl _)).elem0 (D := dgL sA) (i := 0) (by decide) rfl)) ?_
            refine wpHeld_load (.tmp 7) (by kernel_rfl) (by kernel_rfl) (b7) (0) (by kernel_rfl) ((dgL sA)) (dgL_len _) (fun w' hS => (RowB.of_bV (dgL_len _) (blk_below HD.out.2.2.1 hS (blk_lt HD.out.2.2.1))).range) ?_
            refine wpHeld_cons (.bool false) (by kernel_rfl) ?_ ?_
            · rintro w' -
              try go_simp
              rw [run_eq_D (dgL sA) (dgL sA) (dgL_len _) (dgL_len _), decide_eq_true rfl]
              go_simp
            refine wpHeld_cons (.bool false) (by kernel_rfl) ?_ ?_
            · rintro w' -
              try go_simp
            refine wpHeld_nil ?_
            go_simp
            refine wpAnyH_done (by kernel_rfl) ?_ _
            refine NoPanic.normal ?_
            go_simp
            have hfin := HD.out.2.2.2.2.2.trans (HY.out.mono HD.out.2.2.2.2.2.size)
            go_wp2_with fail
            go_roundw
            case rel => exact ⟨k * 2, hdb.out, by omega, by go_num, hfin⟩
            case measure => simp [intOf]; omega
    · have j1 : ¬ (k : Int) ≤ (m : Int) := by omega
      go_wp2
      go_ret
      exact ⟨rfl, HE.out.2.2.1.trans (hB.mono HE.out.2.2.1.size)⟩
end Go.Proofs.YthbjjfblapfjdaaDoor
