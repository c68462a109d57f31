/- DigestHalves (layer 2). -/
import Derived.Test.YthbjjfblapfjdaaDoorDigThree
import Derived.Deep.Cut
namespace Go.Proofs.YthbjjfblapfjdaaDoor
open Go.ChangeShapes Go.WideShapes Go.ChangeAt Go.RowKit
set_option maxRecDepth 100000 in
set_option maxHeartbeats 40000000 in
theorem halves_walk (a : Option Addr) (b off n cap : Nat) (l : List Int) (w : World) (hK : Keys w) (hR : RowB w a b off n l) (hn : n ≤ 9223372036854775807) :
    Calls Tryd.prog 7 #[.slice a n cap] w fun e w' => e = .returned (.bool true) ∧ Below w.heap.size w w' := by
  have HR := Lib.hid (show _ ∧ _ from ⟨hR, hK⟩)
  clear hR hK
  have ke := fun (s t : St) (W : World) => run_eq_D (dgL s) (dgL t) (dgL_len _) (dgL_len _) W
  go_enter Tryd.func7, Tryd.ntmps7
  go_wp2_with (go_at_call 11; refine (sane_any _ HR.out.2).mono ?_; rintro e WS ⟨rfl, hbS⟩)
  go_wp2_with fail
  refine (of_any a b off n cap l _ (HR.out.1.below hbS (Nat.le_refl _)) hn).mono ?_
  rintro e W0 ⟨v, rfl, hO, hb0⟩
  obtain ⟨la, lb, lcap, rfl, hD, hlnc, hlc, hlm, _⟩ := hO.s
  have hbw := hbS.trans (hb0.mono hbS.size)
  obtain ⟨m, hm⟩ : ∃ m, m = min n 24 := ⟨_, rfl⟩
  rw [← hm] at hD hlc ⊢
  obtain ⟨L, hL⟩ : ∃ L, L = ofL l m := ⟨_, rfl⟩
  rw [← hL] at hD hlc ⊢
  have hLl : L.length = m := by rw [hL, ofL_len]
  rw [hLl] at hD hlc ⊢
  have HW := Lib.hid (show _ ∧ Below w.heap.size w W0 ∧ Keys W0 from ⟨hD, hbw, HR.out.2.below hbw⟩)
  have hm24 : m ≤ 24 := by omega
  clear hD hbw hb0 hbS hL hO hm HR
  unfold maxLen at hlm
  have HL := Lib.hid hLl
  clear hLl
  by_cases h0 : m = 0
  · subst h0
    have HT := Lib.hid (treeS_empty HL.out)
    go_wp2_with (go_at_call 17; refine (tree_any 0 (by decide) la lb 0 lcap L W0 HW.out.1 hlc HW.out.2.2).mono ?_; rintro e W1 ⟨rfl, hb1⟩; rw [bV_dg])
    go_wp2_with (go_at_call 14; refine (tagged_any ⟨#[101, 109, 112, 116, 121]⟩ none 0 0 0 0 [] W1 (HW.out.2.2.below hb1) (RowB.none _) (fun _ => rfl) (by decide) (by decide)).mono ?_; rintro e W2 ⟨rfl, hb2⟩; rw [bV_dg, ← HT.out])
    go_wp2
    go_ret
    exact ⟨by simp only [go_sem]; try rfl, HW.out.2.1.trans ((hb1.trans (hb2.mono hb1.size)).mono HW.out.2.1.size)⟩
  by_cases h1 : m = 1
  · clear ke
    subst h1
    obtain rfl := HW.out.1.adr (by decide)
    obtain ⟨sR, hsR⟩ : ∃ s, s = tagS ⟨#[108, 101, 97, 102]⟩ (L.getD 0 []) := ⟨_, rfl⟩
    have HT := Lib.hid (show treeS L = sR from by rw [hsR]; exact treeS_leaf HL.out)
    have HS := Lib.hid hsR
    clear hsR
    go_upto_region 8 with fail
    refine wp_region_from 0 1 (fun w' => Below W0.heap.size W0 w') (by kernel_rfl) (by kernel_rfl) (by decide) (by kernel_rfl) ((Below.refl _ _).drew) ?_
    simp only [List.drop_zero, List.take_succ_cons, List.take_zero]
    refine wpHeld_cons (.slice (some ⟨lb, 0, none⟩) 1 lcap) (by kernel_rfl) ?_ ?_
    · rintro w' -
      try go_simp
    refine wpHeld_nil ?_
    refine wpAnyH_from (fuel := 4) 2 3 (fun _ _ _ _ _ h => h) (by kernel_rfl) (by decide) (by kernel_rfl) ((Below.refl _ _).drew) ?_
    simp only [List.drop_succ_cons, List.drop_zero, List.take_succ_cons, List.take_zero]
    refine wpHeld_cons (.slice (some ⟨lb, 0, none⟩) 1 lcap) (by kernel_rfl) ?_ ?_
    · rintro w' -
      try go_simp
    refine wpHeld_cons (.pointer (some ⟨lb, 0, none⟩)) (by kernel_rfl) ?_ ?_
    · rintro w' -
      try go_simp
    refine wpHeld_cons (.slice (some ⟨lb, 0, none⟩) 32 32) (by kernel_rfl) ?_ ?_
    · rintro w' -
      try go_simp
    refine wpHeld_nil ?_
    go_simp
    refine wpAnyH_one (i := 1) (by kernel_rfl) rfl (by kernel_rfl) (fun K' hK' => ?_)
    go_simp
    refine (tree_any 1 (by decide) (some ⟨lb, 0, none⟩) lb 0 lcap L _ (HW.out.1.below (((Below.refl _ _).drew)) (Nat.le_refl _)) hlc (HW.out.2.2.below (((Below.refl _ _).drew)))).mono ?_
    rintro e W2 ⟨rfl, hb2⟩
    rw [bV_dg, HT.out]
    have HX := Lib.hid (show Below W0.heap.size W0 W2 from below_after (Below.refl _ _).drew hb2 (Nat.le_refl _))
    clear hb2
    refine hK' _ _ (HX.out) ?_
    clear hK' K'
    go_simp
    refine wpAnyH_one (i := 5) (by kernel_rfl) rfl (by kernel_rfl) (fun K' hK' => ?_)
    go_simp
    have hE := (HW.out.1.below HX.out (Nat.le_refl _)).elem (i := 0) (by decide)
    rw [show 0 + 0 * 32 = 0 from rfl] at hE
    refine (tagged_any ⟨#[108, 101, 97, 102]⟩ (some ⟨lb, 0, none⟩) lb 0 32 32 (L.getD 0 []) _ (HW.out.2.2.below HX.out) hE (fun h => by cases h) (by decide) (by decide)).mono ?_
    clear hE
    rintro e W3 ⟨rfl, hb3⟩
    rw [bV_dg, ← HS.out]
    have HY := Lib.hid (show Below W0.heap.size W0 W3 from below_after HX.out hb3 HX.out.size)
    clear hb3
    refine hK' _ _ (HY.out) ?_
    clear hK' K'
    go_simp
    refine wpAnyH_from (fuel := 0) 6 2 (fun _ _ _ _ _ h => h) (by kernel_rfl) (by decide) (by kernel_rfl) (HY.out) ?_
    simp only [List.drop_succ_cons, List.drop_zero, List.take_succ_cons, List.take_zero]
    refine wpHeld_cons (.bool true) (by kernel_rfl) ?_ ?_
    · rintro w' -
      try go_simp
      rw [run_eq_D (dgL sR) (dgL sR) (dgL_len _) (dgL_len _), decide_eq_true rfl]
      go_simp
    refine wpHeld_cons (.bool true) (by kernel_rfl) ?_ ?_
    · rintro w' -
      try go_simp
    refine wpHeld_nil ?_
    go_simp
    refine wpAnyH_done (by kernel_rfl) ?_ _
    refine NoPanic.normal ?_
    go_simp
    go_wp2
    go_ret
    exact ⟨rfl, HW.out.2.1.trans (HY.out.mono HW.out.2.1.size)⟩
  · obtain rfl := HW.out.1.adr (by omega)
    have i0 : ((m : Int) == 0) = false := by simp; omega
    have i1 : ((m : Int) == 1) = false := by simp; omega
    have hm2 : 1 < m := by omega
    go_upto_region 9 with fail
    go_wp2_with fail
    go_loopw [4] (fun v wr => ∃ p : Nat, IsP m p ∧ v = .int .i64 p ∧ wr = W0) (fun v _ => m - (intOf v).toNat)
    case atStart => exact ⟨1, ⟨0, by omega, rfl⟩, rfl, rfl⟩
    case round =>
      obtain ⟨k, ⟨q, hq, hpe⟩, rfl, hwr⟩ := hrel
      subst wr
      have hp : 2 ^ q ≤ 2 ^ Nat.log2 (m - 1) := Nat.pow_le_pow_right (by decide) hq
      have hl := Nat.log2_self_le (n := m - 1) (by omega)
      have hk0 : 0 < 2 ^ q := Nat.pow_pos (by decide)
      have hiff := half_step (k := q) hm2
      have hs : 2 ^ (q + 1) = 2 * 2 ^ q := by rw [Nat.pow_succ]; omega
      rw [← hpe] at hiff hs hk0 hp
      have u1 : IntKind.i64.wrap (2 * (k : Int)) = ((2 * k : Nat) : Int) := (wrap_id (by omega)).trans (by omega)
      have u2 : IntKind.i64.wrap ((k : Int) * 2) = ((2 * k : Nat) : Int) := (wrap_id (by omega)).trans (by omega)
      by_cases hlt : 2 * k < m
      · have i2 : ((2 * k : Nat) : Int) < (m : Int) := by omega
        have HK := Lib.hid (show _ ∧ _ ∧ _ from ⟨hiff, hs, hl⟩)
        clear hiff hs hl hp hpe
        go_wp2
        go_roundw
        case rel => exact ⟨2 * k, ⟨q + 1, HK.out.1.1 hlt, HK.out.2.1.symm⟩, by go_num, trivial⟩
        case measure => simp [intOf]; omega
      · have i2 : ¬ ((2 * k : Nat) : Int) < (m : Int) := by omega
        have hh : k = halfN m := by
          unfold halfN
          rw [hpe]
          congr 1
          have := mt hiff.2 hlt
          omega
        have hkm : k < m := by rw [hh]; exact halfN_lt hm2
        clear hiff hs hl hp hpe
        have hT := treeS_node (l := L) (by rw [HL.out]; exact hm2)
        rw [HL.out, ← hh] at hT
        obtain ⟨sA, hsA⟩ : ∃ s, s = treeS (L.take k) := ⟨_, rfl⟩
        obtain ⟨sB, hsB⟩ : ∃ s, s = treeS (L.drop k) := ⟨_, rfl⟩
        rw [← hsA, ← hsB] at hT
        obtain ⟨sR, hsR⟩ : ∃ s, s = tagS ⟨#[110, 111, 100, 101]⟩ (dgL sA ++ dgL sB) := ⟨_, rfl⟩
        rw [← hsR] at hT
        have HT := Lib.hid hT
        have HS := Lib.hid (show _ ∧ _ ∧ _ from ⟨hsA, hsB, hsR⟩)
        clear hT hh hsA hsB hsR
        have i3 : ¬ lcap < k := by omega
        have i4 : k ≤ m := by omega
        have i5 : ¬ lcap = k := by omega
        have i6 : k ≤ lcap := by omega
        have HDR := Lib.hid (show DigR W0 (some ⟨lb, k * 32, none⟩) lb (k * 32) (m - k) (L.drop k) from by have := HW.out.1.drop (k := k) (m := m - k) (a' := some ⟨lb, 0 + k * 32, none⟩) (by omega) (fun _ => rfl); rwa [Nat.zero_add] at this)
        go_upto_region 12 with fail
        go_cut [5, 6] from 7 (fun s5 s6 wx => TwoD (dgL sA) (dgL sB) W0 s5 s6 wx)
        case first =>
          refine wp_region_from 0 3 (fun w' => Below W0.heap.size W0 w') (by kernel_rfl) (by kernel_rfl) (by decide) (by kernel_rfl) ((Below.refl _ _).drew) ?_
          simp only [List.drop_zero, List.take_succ_cons, List.take_zero]
          refine wpHeld_cons (.slice (some ⟨lb, 0, none⟩) m lcap) (by kernel_rfl) ?_ ?_
          · rintro w' -
            try go_simp
          refine wpHeld_cons (.int .i64 k) (by kernel_rfl) ?_ ?_
          · rintro w' -
            try go_simp
          refine wpHeld_cons (.slice (some ⟨lb, 0, none⟩) k lcap) (by kernel_rfl) ?_ ?_
          · rintro w' -
            try go_simp
          refine wpHeld_nil ?_
          refine wpAnyH_from (fuel := 6) 4 3 (fun _ _ _ _ _ h => h) (by kernel_rfl) (by decide) (by kernel_rfl) ((Below.refl _ _).drew) ?_
          simp only [List.drop_succ_cons, List.drop_zero, List.take_succ_cons, List.take_zero]
          refine wpHeld_cons (.slice (some ⟨lb, 0, none⟩) m lcap) (by kernel_rfl) ?_ ?_
          · rintro w' -
            try go_simp
          refine wpHeld_cons (.int .i64 k) (by kernel_rfl) ?_ ?_
          · rintro w' -
            try go_simp
          refine wpHeld_cons (.slice (some ⟨lb, k * 32, none⟩) (m - k : Nat) (lcap - k : Nat)) (by kernel_rfl) ?_ ?_
          · rintro w' -
            try go_simp
          refine wpHeld_nil ?_
          go_simp
          have H0 := Lib.hid (show Below W0.heap.size W0 W0.drew from (Below.refl _ _).drew)
          refine wpAnyH_three (i := 3) (j := 8) (k := 9) (by kernel_rfl) rfl rfl rfl (by kernel_rfl) (by kernel_rfl) (by kernel_rfl) (fun K' hK' => ?_) (fun K' hK' => ?_) (fun K' hK' => ?_)
          · go_simp
            refine (tree_any k (by omega) (some ⟨lb, 0, none⟩) lb 0 lcap (L.take k) _ ((HW.out.1.take (Nat.le_of_lt hkm) hk0).below (H0.out) (Nat.le_refl _)) (by omega) (HW.out.2.2.below (H0.out))).mono ?_
            rintro e WO1 ⟨rfl, hb1⟩
            rw [bV_dg, ← HS.out.1]
            have HO1 := Lib.hid (show Below W0.heap.size W0 WO1 from below_after H0.out hb1 H0.out.size)
            clear hb1
            refine hK' _ _ (HO1.out) ?_
            clear hK' K'
            go_simp
            refine wpAnyH_three (i := 7) (j := 8) (k := 9) (by kernel_rfl) rfl rfl rfl (by kernel_rfl) (by kernel_rfl) (by kernel_rfl) (fun K' hK' => ?_) (fun K' hK' => ?_) (fun K' hK' => ?_)
            · go_simp
              refine (tree_any (m - k) (by omega) (some ⟨lb, k * 32, none⟩) lb (k * 32) (lcap - k) (L.drop k) _ (HDR.out.below (HO1.out) (Nat.le_refl _)) (by omega) (HW.out.2.2.below (HO1.out))).mono ?_
              rintro e WO2 ⟨rfl, hb2⟩
              rw [bV_dg, ← HS.out.2.1]
              have HO2 := Lib.hid (show Below W0.heap.size W0 WO2 from below_after HO1.out hb2 HO1.out.size)
              clear hb2
              refine hK' _ _ (HO2.out) ?_
              clear hK' K'
              go_simp
              refine wpAnyH_two (i := 8) (j := 9) (by kernel_rfl) rfl rfl (by kernel_rfl) (by kernel_rfl) (fun K' hK' => ?_) (fun K' hK' => ?_)
              · go_simp
                have HO3 := Lib.hid (show Below W0.heap.size W0 _ ∧ W0.heap.size ≤ WO2.heap.size ∧ _ from ⟨HO2.out.alloc HO2.out.size (.cells (List.toArray (.int .u8 0 :: .int .u8 0 :: .int .u8 0 :: .int .u8 0 :: .int .u8 0 :: .int .u8 0 :: .int .u8 0 :: .int .u8 0 :: .int .u8 0 :: .int .u8 0 :: .int .u8 0 :: .int .u8 0 :: .int .u8 0 :: .int .u8 0 :: .int .u8 0 :: .int .u8 0 :: .int .u8 0 :: .int .u8 0 :: .int .u8 0 :: .int .u8 0 :: .int .u8 0 :: .int .u8 0 :: .int .u8 0 :: .int .u8 0 :: .int .u8 0 :: .int .u8 0 :: .int .u8 0 :: .int .u8 0 :: .int .u8 0 :: .int .u8 0 :: .int .u8 0 :: .int .u8 0 :: [])) 26), HO2.out.size, blk_new WO2 (.cells (List.toArray (.int .u8 0 :: .int .u8 0 :: .int .u8 0 :: .int .u8 0 :: .int .u8 0 :: .int .u8 0 :: .int .u8 0 :: .int .u8 0 :: .int .u8 0 :: .int .u8 0 :: .int .u8 0 :: .int .u8 0 :: .int .u8 0 :: .int .u8 0 :: .int .u8 0 :: .int .u8 0 :: .int .u8 0 :: .int .u8 0 :: .int .u8 0 :: .int .u8 0 :: .int .u8 0 :: .int .u8 0 :: .int .u8 0 :: .int .u8 0 :: .int .u8 0 :: .int .u8 0 :: .int .u8 0 :: .int .u8 0 :: .int .u8 0 :: .int .u8 0 :: .int .u8 0 :: .int .u8 0 :: [])) 26)⟩)
                generalize WO2.alloc (.cells (List.toArray (.int .u8 0 :: .int .u8 0 :: .int .u8 0 :: .int .u8 0 :: .int .u8 0 :: .int .u8 0 :: .int .u8 0 :: .int .u8 0 :: .int .u8 0 :: .int .u8 0 :: .int .u8 0 :: .int .u8 0 :: .int .u8 0 :: .int .u8 0 :: .int .u8 0 :: .int .u8 0 :: .int .u8 0 :: .int .u8 0 :: .int .u8 0 :: .int .u8 0 :: .int .u8 0 :: .int .u8 0 :: .int .u8 0 :: .int .u8 0 :: .int .u8 0 :: .int .u8 0 :: .int .u8 0 :: .int .u8 0 :: .int .u8 0 :: .int .u8 0 :: .int .u8 0 :: .int .u8 0 :: [])) 26) = WO3 at *
                refine hK' _ _ (HO3.out.1) ?_
                clear hK' K'
                go_simp
                refine wpAnyH_one (i := 9) (by kernel_rfl) rfl (by kernel_rfl) (fun K' hK' => ?_)
                go_simp
                have HO4 := Lib.hid (show Below W0.heap.size W0 _ ∧ W0.heap.size ≤ WO2.heap.size ∧ _ ∧ WO2.heap.size ≠ WO3.heap.size ∧ W0.heap.size ≤ WO3.heap.size ∧ _ from ⟨HO3.out.1.alloc HO3.out.1.size (.cells (List.toArray (.int .u8 0 :: .int .u8 0 :: .int .u8 0 :: .int .u8 0 :: .int .u8 0 :: .int .u8 0 :: .int .u8 0 :: .int .u8 0 :: .int .u8 0 :: .int .u8 0 :: .int .u8 0 :: .int .u8 0 :: .int .u8 0 :: .int .u8 0 :: .int .u8 0 :: .int .u8 0 :: .int .u8 0 :: .int .u8 0 :: .int .u8 0 :: .int .u8 0 :: .int .u8 0 :: .int .u8 0 :: .int .u8 0 :: .int .u8 0 :: .int .u8 0 :: .int .u8 0 :: .int .u8 0 :: .int .u8 0 :: .int .u8 0 :: .int .u8 0 :: .int .u8 0 :: .int .u8 0 :: [])) 26), HO3.out.2.1, blk_alloc HO3.out.2.2 (.cells (List.toArray (.int .u8 0 :: .int .u8 0 :: .int .u8 0 :: .int .u8 0 :: .int .u8 0 :: .int .u8 0 :: .int .u8 0 :: .int .u8 0 :: .int .u8 0 :: .int .u8 0 :: .int .u8 0 :: .int .u8 0 :: .int .u8 0 :: .int .u8 0 :: .int .u8 0 :: .int .u8 0 :: .int .u8 0 :: .int .u8 0 :: .int .u8 0 :: .int .u8 0 :: .int .u8 0 :: .int .u8 0 :: .int .u8 0 :: .int .u8 0 :: .int .u8 0 :: .int .u8 0 :: .int .u8 0 :: .int .u8 0 :: .int .u8 0 :: .int .u8 0 :: .int .u8 0 :: .int .u8 0 :: [])) 26), other_block HO3.out.2.2 (Nat.le_refl _), HO3.out.1.size, blk_new WO3 (.cells (List.toArray (.int .u8 0 :: .int .u8 0 :: .int .u8 0 :: .int .u8 0 :: .int .u8 0 :: .int .u8 0 :: .int .u8 0 :: .int .u8 0 :: .int .u8 0 :: .int .u8 0 :: .int .u8 0 :: .int .u8 0 :: .int .u8 0 :: .int .u8 0 :: .int .u8 0 :: .int .u8 0 :: .int .u8 0 :: .int .u8 0 :: .int .u8 0 :: .int .u8 0 :: .int .u8 0 :: .int .u8 0 :: .int .u8 0 :: .int .u8 0 :: .int .u8 0 :: .int .u8 0 :: .int .u8 0 :: .int .u8 0 :: .int .u8 0 :: .int .u8 0 :: .int .u8 0 :: .int .u8 0 :: [])) 26)⟩)
                generalize WO3.alloc (.cells (List.toArray (.int .u8 0 :: .int .u8 0 :: .int .u8 0 :: .int .u8 0 :: .int .u8 0 :: .int .u8 0 :: .int .u8 0 :: .int .u8 0 :: .int .u8 0 :: .int .u8 0 :: .int .u8 0 :: .int .u8 0 :: .int .u8 0 :: .int .u8 0 :: .int .u8 0 :: .int .u8 0 :: .int .u8 0 :: .int .u8 0 :: .int .u8 0 :: .int .u8 0 :: .int .u8 0 :: .int .u8 0 :: .int .u8 0 :: .int .u8 0 :: .int .u8 0 :: .int .u8 0 :: .int .u8 0 :: .int .u8 0 :: .int .u8 0 :: .int .u8 0 :: .int .u8 0 :: .int .u8 0 :: [])) 26) = WO4 at *
                refine hK' _ _ (HO4.out.1) ?_
                clear hK' K'
                go_simp
                refine wpAnyH_one (i := 10) (by kernel_rfl) rfl (by kernel_rfl) (fun K' hK' => ?_)
                refine wp_store_row 26 (.tmp 5) (.tmp 38) (by kernel_rfl) WO2.heap.size (bV (dgL sA)) (by kernel_rfl) (by kernel_rfl) 26 _ HO4.out.2.2.1 (by rw [bV_size, dgL_len]; kernel_rfl) (by rw [bV_size, dgL_len]; rfl) (bV_one _) ?_
                have hf5 := setRow_heap _ WO2.heap.size _ (bV (dgL sA)) 26 (0, 0) HO4.out.2.2.1
                have hf6 := (setRow_other WO4 WO2.heap.size WO3.heap.size (bV (dgL sA)) (Ne.symm HO4.out.2.2.2.1)).trans HO4.out.2.2.2.2.2
                have hbw := below_setRow HO4.out.1 HO4.out.2.1 (bV (dgL sA))
                generalize WO4.setRow WO2.heap.size (bV (dgL sA)) = WZ at *
                refine hK' _ _ (hbw) ?_
                clear hK' K'
                go_simp
                refine wpAnyH_one (i := 11) (by kernel_rfl) rfl (by kernel_rfl) (fun K' hK' => ?_)
                refine wp_store_row 26 (.tmp 6) (.tmp 42) (by kernel_rfl) WO3.heap.size (bV (dgL sB)) (by kernel_rfl) (by kernel_rfl) 26 _ hf6 (by rw [bV_size, dgL_len]; kernel_rfl) (by rw [bV_size, dgL_len]; rfl) (bV_one _) ?_
                have hg6 := setRow_heap _ WO3.heap.size _ (bV (dgL sB)) 26 (0, 0) hf6
                have hg5 := (setRow_other WZ WO3.heap.size WO2.heap.size (bV (dgL sB)) HO4.out.2.2.2.1).trans hf5
                have hbw2 := below_setRow hbw HO4.out.2.2.2.2.1 (bV (dgL sB))
                have HM := Lib.hid (show TwoD (dgL sA) (dgL sB) W0 (.pointer (some ⟨WO2.heap.size, 0, none⟩)) (.pointer (some ⟨WO3.heap.size, 0, none⟩)) (WZ.setRow WO3.heap.size (bV (dgL sB))) from ⟨_, _, rfl, rfl, hg5, hg6, hbw2, HO4.out.2.1, HO4.out.2.2.2.2.1, HO4.out.2.2.2.1⟩)
                generalize WZ.setRow WO3.heap.size (bV (dgL sB)) = WY at *
                clear hg6 hg5 hf5 hf6 hbw
                refine hK' _ _ (hbw2) ?_
                clear hK' K'
                go_simp
                refine wpAnyH_done (by kernel_rfl) ?_ _
                refine NoPanic.normal ?_
                go_simp
                go_wp2_with fail
                go_meet
                case rel => exact HM.out
              · go_simp
                have HO5 := Lib.hid (show Below W0.heap.size W0 _ ∧ W0.heap.size ≤ WO2.heap.size ∧ _ from ⟨HO2.out.alloc HO2.out.size (.cells (List.toArray (.int .u8 0 :: .int .u8 0 :: .int .u8 0 :: .int .u8 0 :: .int .u8 0 :: .int .u8 0 :: .int .u8 0 :: .int .u8 0 :: .int .u8 0 :: .int .u8 0 :: .int .u8 0 :: .int .u8 0 :: .int .u8 0 :: .int .u8 0 :: .int .u8 0 :: .int .u8 0 :: .int .u8 0 :: .int .u8 0 :: .int .u8 0 :: .int .u8 0 :: .int .u8 0 :: .int .u8 0 :: .int .u8 0 :: .int .u8 0 :: .int .u8 0 :: .int .u8 0 :: .int .u8 0 :: .int .u8 0 :: .int .u8 0 :: .int .u8 0 :: .int .u8 0 :: .int .u8 0 :: [])) 26), HO2.out.size, blk_new WO2 (.cells (List.toArray (.int .u8 0 :: .int .u8 0 :: .int .u8 0 :: .int .u8 0 :: .int .u8 0 :: .int .u8 0 :: .int .u8 0 :: .int .u8 0 :: .int .u8 0 :: .int .u8 0 :: .int .u8 0 :: .int .u8 0 :: .int .u8 0 :: .int .u8 0 :: .int .u8 0 :: .int .u8 0 :: .int .u8 0 :: .int .u8 0 :: .int .u8 0 :: .int .u8 0 :: .int .u8 0 :: .int .u8 0 :: .int .u8 0 :: .int .u8 0 :: .int .u8 0 :: .int .u8 0 :: .int .u8 0 :: .int .u8 0 :: .int .u8 0 :: .int .u8 0 :: .int .u8 0 :: .int .u8 0 :: [])) 26)⟩)
                generalize WO2.alloc (.cells (List.toArray (.int .u8 0 :: .int .u8 0 :: .int .u8 0 :: .int .u8 0 :: .int .u8 0 :: .int .u8 0 :: .int .u8 0 :: .int .u8 0 :: .int .u8 0 :: .int .u8 0 :: .int .u8 0 :: .int .u8 0 :: .int .u8 0 :: .int .u8 0 :: .int .u8 0 :: .int .u8 0 :: .int .u8 0 :: .int .u8 0 :: .int .u8 0 :: .int .u8 0 :: .int .u8 0 :: .int .u8 0 :: .int .u8 0 :: .int .u8 0 :: .int .u8 0 :: .int .u8 0 :: .int .u8 0 :: .int .u8 0 :: .int .u8 0 :: .int .u8 0 :: .int .u8 0 :: .int .u8 0 :: [])) 26) = WO5 at *
                refine hK' _ _ (HO5.out.1) ?_
                clear hK' K'
                go_simp
                refine wpAnyH_one (i := 8) (by kernel_rfl) rfl (by kernel_rfl) (fun K' hK' => ?_)
                go_simp
                have HO6 := Lib.hid (show Below W0.heap.size W0 _ ∧ W0.heap.size ≤ WO2.heap.size ∧ _ ∧ WO2.heap.size ≠ WO5.heap.size ∧ W0.heap.size ≤ WO5.heap.size ∧ _ from ⟨HO5.out.1.alloc HO5.out.1.size (.cells (List.toArray (.int .u8 0 :: .int .u8 0 :: .int .u8 0 :: .int .u8 0 :: .int .u8 0 :: .int .u8 0 :: .int .u8 0 :: .int .u8 0 :: .int .u8 0 :: .int .u8 0 :: .int .u8 0 :: .int .u8 0 :: .int .u8 0 :: .int .u8 0 :: .int .u8 0 :: .int .u8 0 :: .int .u8 0 :: .int .u8 0 :: .int .u8 0 :: .int .u8 0 :: .int .u8 0 :: .int .u8 0 :: .int .u8 0 :: .int .u8 0 :: .int .u8 0 :: .int .u8 0 :: .int .u8 0 :: .int .u8 0 :: .int .u8 0 :: .int .u8 0 :: .int .u8 0 :: .int .u8 0 :: [])) 26), HO5.out.2.1, blk_alloc HO5.out.2.2 (.cells (List.toArray (.int .u8 0 :: .int .u8 0 :: .int .u8 0 :: .int .u8 0 :: .int .u8 0 :: .int .u8 0 :: .int .u8 0 :: .int .u8 0 :: .int .u8 0 :: .int .u8 0 :: .int .u8 0 :: .int .u8 0 :: .int .u8 0 :: .int .u8 0 :: .int .u8 0 :: .int .u8 0 :: .int .u8 0 :: .int .u8 0 :: .int .u8 0 :: .int .u8 0 :: .int .u8 0 :: .int .u8 0 :: .int .u8 0 :: .int .u8 0 :: .int .u8 0 :: .int .u8 0 :: .int .u8 0 :: .int .u8 0 :: .int .u8 0 :: .int .u8 0 :: .int .u8 0 :: .int .u8 0 :: [])) 26), other_block HO5.out.2.2 (Nat.le_refl _), HO5.out.1.size, blk_new WO5 (.cells (List.toArray (.int .u8 0 :: .int .u8 0 :: .int .u8 0 :: .int .u8 0 :: .int .u8 0 :: .int .u8 0 :: .int .u8 0 :: .int .u8 0 :: .int .u8 0 :: .int .u8 0 :: .int .u8 0 :: .int .u8 0 :: .int .u8 0 :: .int .u8 0 :: .int .u8 0 :: .int .u8 0 :: .int .u8 0 :: .int .u8 0 :: .int .u8 0 :: .int .u8 0 :: .int .u8 0 :: .int .u8 0 :: .int .u8 0 :: .int .u8 0 :: .int .u8 0 :: .int .u8 0 :: .int .u8 0 :: .int .u8 0 :: .int .u8 0 :: .int .u8 0 :: .int .u8 0 :: .int .u8 0 :: [])) 26)⟩)
                generalize WO5.alloc (.cells (List.toArray (.int .u8 0 :: .int .u8 0 :: .int .u8 0 :: .int .u8 0 :: .int .u8 0 :: .int .u8 0 :: .int .u8 0 :: .int .u8 0 :: .int .u8 0 :: .int .u8 0 :: .int .u8 0 :: .int .u8 0 :: .int .u8 0 :: .int .u8 0 :: .int .u8 0 :: .int .u8 0 :: .int .u8 0 :: .int .u8 0 :: .int .u8 0 :: .int .u8 0 :: .int .u8 0 :: .int .u8 0 :: .int .u8 0 :: .int .u8 0 :: .int .u8 0 :: .int .u8 0 :: .int .u8 0 :: .int .u8 0 :: .int .u8 0 :: .int .u8 0 :: .int .u8 0 :: .int .u8 0 :: [])) 26) = WO6 at *
                refine hK' _ _ (HO6.out.1) ?_
                clear hK' K'
                go_simp
                refine wpAnyH_one (i := 10) (by kernel_rfl) rfl (by kernel_rfl) (fun K' hK' => ?_)
                refine wp_store_row 26 (.tmp 5) (.tmp 38) (by kernel_rfl) WO5.heap.size (bV (dgL sA)) (by kernel_rfl) (by kernel_rfl) 26 _ HO6.out.2.2.2.2.2 (by rw [bV_size, dgL_len]; kernel_rfl) (by rw [bV_size, dgL_len]; rfl) (bV_one _) ?_
                have hf5 := setRow_heap _ WO5.heap.size _ (bV (dgL sA)) 26 (0, 0) HO6.out.2.2.2.2.2
                have hf6 := (setRow_other WO6 WO5.heap.size WO2.heap.size (bV (dgL sA)) HO6.out.2.2.2.1).trans HO6.out.2.2.1
                have hbw := below_setRow HO6.out.1 HO6.out.2.2.2.2.1 (bV (dgL sA))
                generalize WO6.setRow WO5.heap.size (bV (dgL sA)) = WZ at *
                refine hK' _ _ (hbw) ?_
                clear hK' K'
                go_simp
                refine wpAnyH_one (i := 11) (by kernel_rfl) rfl (by kernel_rfl) (fun K' hK' => ?_)
                refine wp_store_row 26 (.tmp 6) (.tmp 42) (by kernel_rfl) WO2.heap.size (bV (dgL sB)) (by kernel_rfl) (by kernel_rfl) 26 _ hf6 (by rw [bV_size, dgL_len]; kernel_rfl) (by rw [bV_size, dgL_len]; rfl) (bV_one _) ?_
                have hg6 := setRow_heap _ WO2.heap.size _ (bV (dgL sB)) 26 (0, 0) hf6
                have hg5 := (setRow_other WZ WO2.heap.size WO5.heap.size (bV (dgL sB)) (Ne.symm HO6.out.2.2.2.1)).trans hf5
                have hbw2 := below_setRow hbw HO6.out.2.1 (bV (dgL sB))
                have HM := Lib.hid (show TwoD (dgL sA) (dgL sB) W0 (.pointer (some ⟨WO5.heap.size, 0, none⟩)) (.pointer (some ⟨WO2.heap.size, 0, none⟩)) (WZ.setRow WO2.heap.size (bV (dgL sB))) from ⟨_, _, rfl, rfl, hg5, hg6, hbw2, HO6.out.2.2.2.2.1, HO6.out.2.1, (Ne.symm HO6.out.2.2.2.1)⟩)
                generalize WZ.setRow WO2.heap.size (bV (dgL sB)) = WY at *
                clear hg6 hg5 hf5 hf6 hbw
                refine hK' _ _ (hbw2) ?_
                clear hK' K'
                go_simp
                refine wpAnyH_done (by kernel_rfl) ?_ _
                refine NoPanic.normal ?_
                go_simp
                go_wp2_with fail
                go_meet
                case rel => exact HM.out
            · go_simp
              have HO7 := Lib.hid (show Below W0.heap.size W0 _ ∧ W0.heap.size ≤ WO1.heap.size ∧ _ from ⟨HO1.out.alloc HO1.out.size (.cells (List.toArray (.int .u8 0 :: .int .u8 0 :: .int .u8 0 :: .int .u8 0 :: .int .u8 0 :: .int .u8 0 :: .int .u8 0 :: .int .u8 0 :: .int .u8 0 :: .int .u8 0 :: .int .u8 0 :: .int .u8 0 :: .int .u8 0 :: .int .u8 0 :: .int .u8 0 :: .int .u8 0 :: .int .u8 0 :: .int .u8 0 :: .int .u8 0 :: .int .u8 0 :: .int .u8 0 :: .int .u8 0 :: .int .u8 0 :: .int .u8 0 :: .int .u8 0 :: .int .u8 0 :: .int .u8 0 :: .int .u8 0 :: .int .u8 0 :: .int .u8 0 :: .int .u8 0 :: .int .u8 0 :: [])) 26), HO1.out.size, blk_new WO1 (.cells (List.toArray (.int .u8 0 :: .int .u8 0 :: .int .u8 0 :: .int .u8 0 :: .int .u8 0 :: .int .u8 0 :: .int .u8 0 :: .int .u8 0 :: .int .u8 0 :: .int .u8 0 :: .int .u8 0 :: .int .u8 0 :: .int .u8 0 :: .int .u8 0 :: .int .u8 0 :: .int .u8 0 :: .int .u8 0 :: .int .u8 0 :: .int .u8 0 :: .int .u8 0 :: .int .u8 0 :: .int .u8 0 :: .int .u8 0 :: .int .u8 0 :: .int .u8 0 :: .int .u8 0 :: .int .u8 0 :: .int .u8 0 :: .int .u8 0 :: .int .u8 0 :: .int .u8 0 :: .int .u8 0 :: [])) 26)⟩)
              generalize WO1.alloc (.cells (List.toArray (.int .u8 0 :: .int .u8 0 :: .int .u8 0 :: .int .u8 0 :: .int .u8 0 :: .int .u8 0 :: .int .u8 0 :: .int .u8 0 :: .int .u8 0 :: .int .u8 0 :: .int .u8 0 :: .int .u8 0 :: .int .u8 0 :: .int .u8 0 :: .int .u8 0 :: .int .u8 0 :: .int .u8 0 :: .int .u8 0 :: .int .u8 0 :: .int .u8 0 :: .int .u8 0 :: .int .u8 0 :: .int .u8 0 :: .int .u8 0 :: .int .u8 0 :: .int .u8 0 :: .int .u8 0 :: .int .u8 0 :: .int .u8 0 :: .int .u8 0 :: .int .u8 0 :: .int .u8 0 :: [])) 26) = WO7 at *
              refine hK' _ _ (HO7.out.1) ?_
              clear hK' K'
              go_simp
              refine wpAnyH_two (i := 7) (j := 9) (by kernel_rfl) rfl rfl (by kernel_rfl) (by kernel_rfl) (fun K' hK' => ?_) (fun K' hK' => ?_)
              · go_simp
                refine (tree_any (m - k) (by omega) (some ⟨lb, k * 32, none⟩) lb (k * 32) (lcap - k) (L.drop k) _ (HDR.out.below (HO7.out.1) (Nat.le_refl _)) (by omega) (HW.out.2.2.below (HO7.out.1))).mono ?_
                rintro e WO8 ⟨rfl, hb8⟩
                rw [bV_dg, ← HS.out.2.1]
                have HO8 := Lib.hid (show Below W0.heap.size W0 WO8 ∧ _ ∧ _ from ⟨below_after HO7.out.1 hb8 HO7.out.1.size, HO7.out.2.1, blk_below HO7.out.2.2 hb8 (Array.getElem?_eq_some_iff.1 HO7.out.2.2).1⟩)
                clear hb8
                refine hK' _ _ (HO8.out.1) ?_
                clear hK' K'
                go_simp
                refine wpAnyH_one (i := 9) (by kernel_rfl) rfl (by kernel_rfl) (fun K' hK' => ?_)
                go_simp
                have HO9 := Lib.hid (show Below W0.heap.size W0 _ ∧ W0.heap.size ≤ WO1.heap.size ∧ _ ∧ WO1.heap.size ≠ WO8.heap.size ∧ W0.heap.size ≤ WO8.heap.size ∧ _ from ⟨HO8.out.1.alloc HO8.out.1.size (.cells (List.toArray (.int .u8 0 :: .int .u8 0 :: .int .u8 0 :: .int .u8 0 :: .int .u8 0 :: .int .u8 0 :: .int .u8 0 :: .int .u8 0 :: .int .u8 0 :: .int .u8 0 :: .int .u8 0 :: .int .u8 0 :: .int .u8 0 :: .int .u8 0 :: .int .u8 0 :: .int .u8 0 :: .int .u8 0 :: .int .u8 0 :: .int .u8 0 :: .int .u8 0 :: .int .u8 0 :: .int .u8 0 :: .int .u8 0 :: .int .u8 0 :: .int .u8 0 :: .int .u8 0 :: .int .u8 0 :: .int .u8 0 :: .int .u8 0 :: .int .u8 0 :: .int .u8 0 :: .int .u8 0 :: [])) 26), HO8.out.2.1, blk_alloc HO8.out.2.2 (.cells (List.toArray (.int .u8 0 :: .int .u8 0 :: .int .u8 0 :: .int .u8 0 :: .int .u8 0 :: .int .u8 0 :: .int .u8 0 :: .int .u8 0 :: .int .u8 0 :: .int .u8 0 :: .int .u8 0 :: .int .u8 0 :: .int .u8 0 :: .int .u8 0 :: .int .u8 0 :: .int .u8 0 :: .int .u8 0 :: .int .u8 0 :: .int .u8 0 :: .int .u8 0 :: .int .u8 0 :: .int .u8 0 :: .int .u8 0 :: .int .u8 0 :: .int .u8 0 :: .int .u8 0 :: .int .u8 0 :: .int .u8 0 :: .int .u8 0 :: .int .u8 0 :: .int .u8 0 :: .int .u8 0 :: [])) 26), other_block HO8.out.2.2 (Nat.le_refl _), HO8.out.1.size, blk_new WO8 (.cells (List.toArray (.int .u8 0 :: .int .u8 0 :: .int .u8 0 :: .int .u8 0 :: .int .u8 0 :: .int .u8 0 :: .int .u8 0 :: .int .u8 0 :: .int .u8 0 :: .int .u8 0 :: .int .u8 0 :: .int .u8 0 :: .int .u8 0 :: .int .u8 0 :: .int .u8 0 :: .int .u8 0 :: .int .u8 0 :: .int .u8 0 :: .int .u8 0 :: .int .u8 0 :: .int .u8 0 :: .int .u8 0 :: .int .u8 0 :: .int .u8 0 :: .int .u8 0 :: .int .u8 0 :: .int .u8 0 :: .int .u8 0 :: .int .u8 0 :: .int .u8 0 :: .int .u8 0 :: .int .u8 0 :: [])) 26)⟩)
                generalize WO8.alloc (.cells (List.toArray (.int .u8 0 :: .int .u8 0 :: .int .u8 0 :: .int .u8 0 :: .int .u8 0 :: .int .u8 0 :: .int .u8 0 :: .int .u8 0 :: .int .u8 0 :: .int .u8 0 :: .int .u8 0 :: .int .u8 0 :: .int .u8 0 :: .int .u8 0 :: .int .u8 0 :: .int .u8 0 :: .int .u8 0 :: .int .u8 0 :: .int .u8 0 :: .int .u8 0 :: .int .u8 0 :: .int .u8 0 :: .int .u8 0 :: .int .u8 0 :: .int .u8 0 :: .int .u8 0 :: .int .u8 0 :: .int .u8 0 :: .int .u8 0 :: .int .u8 0 :: .int .u8 0 :: .int .u8 0 :: [])) 26) = WO9 at *
                refine hK' _ _ (HO9.out.1) ?_
                clear hK' K'
                go_simp
                refine wpAnyH_one (i := 10) (by kernel_rfl) rfl (by kernel_rfl) (fun K' hK' => ?_)
                refine wp_store_row 26 (.tmp 5) (.tmp 38) (by kernel_rfl) WO1.heap.size (bV (dgL sA)) (by kernel_rfl) (by kernel_rfl) 26 _ HO9.out.2.2.1 (by rw [bV_size, dgL_len]; kernel_rfl) (by rw [bV_size, dgL_len]; rfl) (bV_one _) ?_
                have hf5 := setRow_heap _ WO1.heap.size _ (bV (dgL sA)) 26 (0, 0) HO9.out.2.2.1
                have hf6 := (setRow_other WO9 WO1.heap.size WO8.heap.size (bV (dgL sA)) (Ne.symm HO9.out.2.2.2.1)).trans HO9.out.2.2.2.2.2
                have hbw := below_setRow HO9.out.1 HO9.out.2.1 (bV (dgL sA))
                generalize WO9.setRow WO1.heap.size (bV (dgL sA)) = WZ at *
                refine hK' _ _ (hbw) ?_
                clear hK' K'
                go_simp
                refine wpAnyH_one (i := 11) (by kernel_rfl) rfl (by kernel_rfl) (fun K' hK' => ?_)
                refine wp_store_row 26 (.tmp 6) (.tmp 42) (by kernel_rfl) WO8.heap.size (bV (dgL sB)) (by kernel_rfl) (by kernel_rfl) 26 _ hf6 (by rw [bV_size, dgL_len]; kernel_rfl) (by rw [bV_size, dgL_len]; rfl) (bV_one _) ?_
                have hg6 := setRow_heap _ WO8.heap.size _ (bV (dgL sB)) 26 (0, 0) hf6
                have hg5 := (setRow_other WZ WO8.heap.size WO1.heap.size (bV (dgL sB)) HO9.out.2.2.2.1).trans hf5
                have hbw2 := below_setRow hbw HO9.out.2.2.2.2.1 (bV (dgL sB))
                have HM := Lib.hid (show TwoD (dgL sA) (dgL sB) W0 (.pointer (some ⟨WO1.heap.size, 0, none⟩)) (.pointer (some ⟨WO8.heap.size, 0, none⟩)) (WZ.setRow WO8.heap.size (bV (dgL sB))) from ⟨_, _, rfl, rfl, hg5, hg6, hbw2, HO9.out.2.1, HO9.out.2.2.2.2.1, HO9.out.2.2.2.1⟩)
                generalize WZ.setRow WO8.heap.size (bV (dgL sB)) = WY at *
                clear hg6 hg5 hf5 hf6 hbw
                refine hK' _ _ (hbw2) ?_
                clear hK' K'
                go_simp
                refine wpAnyH_done (by kernel_rfl) ?_ _
                refine NoPanic.normal ?_
                go_simp
                go_wp2_with fail
                go_meet
                case rel => exact HM.out
              · go_simp
                have HO10 := Lib.hid (show Below W0.heap.size W0 _ ∧ W0.heap.size ≤ WO1.heap.size ∧ _ ∧ WO1.heap.size ≠ WO7.heap.size ∧ W0.heap.size ≤ WO7.heap.size ∧ _ from ⟨HO7.out.1.alloc HO7.out.1.size (.cells (List.toArray (.int .u8 0 :: .int .u8 0 :: .int .u8 0 :: .int .u8 0 :: .int .u8 0 :: .int .u8 0 :: .int .u8 0 :: .int .u8 0 :: .int .u8 0 :: .int .u8 0 :: .int .u8 0 :: .int .u8 0 :: .int .u8 0 :: .int .u8 0 :: .int .u8 0 :: .int .u8 0 :: .int .u8 0 :: .int .u8 0 :: .int .u8 0 :: .int .u8 0 :: .int .u8 0 :: .int .u8 0 :: .int .u8 0 :: .int .u8 0 :: .int .u8 0 :: .int .u8 0 :: .int .u8 0 :: .int .u8 0 :: .int .u8 0 :: .int .u8 0 :: .int .u8 0 :: .int .u8 0 :: [])) 26), HO7.out.2.1, blk_alloc HO7.out.2.2 (.cells (List.toArray (.int .u8 0 :: .int .u8 0 :: .int .u8 0 :: .int .u8 0 :: .int .u8 0 :: .int .u8 0 :: .int .u8 0 :: .int .u8 0 :: .int .u8 0 :: .int .u8 0 :: .int .u8 0 :: .int .u8 0 :: .int .u8 0 :: .int .u8 0 :: .int .u8 0 :: .int .u8 0 :: .int .u8 0 :: .int .u8 0 :: .int .u8 0 :: .int .u8 0 :: .int .u8 0 :: .int .u8 0 :: .int .u8 0 :: .int .u8 0 :: .int .u8 0 :: .int .u8 0 :: .int .u8 0 :: .int .u8 0 :: .int .u8 0 :: .int .u8 0 :: .int .u8 0 :: .int .u8 0 :: [])) 26), other_block HO7.out.2.2 (Nat.le_refl _), HO7.out.1.size, blk_new WO7 (.cells (List.toArray (.int .u8 0 :: .int .u8 0 :: .int .u8 0 :: .int .u8 0 :: .int .u8 0 :: .int .u8 0 :: .int .u8 0 :: .int .u8 0 :: .int .u8 0 :: .int .u8 0 :: .int .u8 0 :: .int .u8 0 :: .int .u8 0 :: .int .u8 0 :: .int .u8 0 :: .int .u8 0 :: .int .u8 0 :: .int .u8 0 :: .int .u8 0 :: .int .u8 0 :: .int .u8 0 :: .int .u8 0 :: .int .u8 0 :: .int .u8 0 :: .int .u8 0 :: .int .u8 0 :: .int .u8 0 :: .int .u8 0 :: .int .u8 0 :: .int .u8 0 :: .int .u8 0 :: .int .u8 0 :: [])) 26)⟩)
                generalize WO7.alloc (.cells (List.toArray (.int .u8 0 :: .int .u8 0 :: .int .u8 0 :: .int .u8 0 :: .int .u8 0 :: .int .u8 0 :: .int .u8 0 :: .int .u8 0 :: .int .u8 0 :: .int .u8 0 :: .int .u8 0 :: .int .u8 0 :: .int .u8 0 :: .int .u8 0 :: .int .u8 0 :: .int .u8 0 :: .int .u8 0 :: .int .u8 0 :: .int .u8 0 :: .int .u8 0 :: .int .u8 0 :: .int .u8 0 :: .int .u8 0 :: .int .u8 0 :: .int .u8 0 :: .int .u8 0 :: .int .u8 0 :: .int .u8 0 :: .int .u8 0 :: .int .u8 0 :: .int .u8 0 :: .int .u8 0 :: [])) 26) = WO10 at *
                refine hK' _ _ (HO10.out.1) ?_
                clear hK' K'
                go_simp
                refine wpAnyH_one (i := 7) (by kernel_rfl) rfl (by kernel_rfl) (fun K' hK' => ?_)
                go_simp
                refine (tree_any (m - k) (by omega) (some ⟨lb, k * 32, none⟩) lb (k * 32) (lcap - k) (L.drop k) _ (HDR.out.below (HO10.out.1) (Nat.le_refl _)) (by omega) (HW.out.2.2.below (HO10.out.1))).mono ?_
                rintro e WO11 ⟨rfl, hb11⟩
                rw [bV_dg, ← HS.out.2.1]
                have HO11 := Lib.hid (show Below W0.heap.size W0 WO11 ∧ _ ∧ _ ∧ _ ∧ _ ∧ _ from ⟨below_after HO10.out.1 hb11 HO10.out.1.size, HO10.out.2.1, blk_below HO10.out.2.2.1 hb11 (Array.getElem?_eq_some_iff.1 HO10.out.2.2.1).1, HO10.out.2.2.2.1, HO10.out.2.2.2.2.1, blk_below HO10.out.2.2.2.2.2 hb11 (Array.getElem?_eq_some_iff.1 HO10.out.2.2.2.2.2).1⟩)
                clear hb11
                refine hK' _ _ (HO11.out.1) ?_
                clear hK' K'
                go_simp
                refine wpAnyH_one (i := 10) (by kernel_rfl) rfl (by kernel_rfl) (fun K' hK' => ?_)
                refine wp_store_row 26 (.tmp 5) (.tmp 38) (by kernel_rfl) WO1.heap.size (bV (dgL sA)) (by kernel_rfl) (by kernel_rfl) 26 _ HO11.out.2.2.1 (by rw [bV_size, dgL_len]; kernel_rfl) (by rw [bV_size, dgL_len]; rfl) (bV_one _) ?_
                have hf5 := setRow_heap _ WO1.heap.size _ (bV (dgL sA)) 26 (0, 0) HO11.out.2.2.1
                have hf6 := (setRow_other WO11 WO1.heap.size WO7.heap.size (bV (dgL sA)) (Ne.symm HO11.out.2.2.2.1)).trans HO11.out.2.2.2.2.2
                have hbw := below_setRow HO11.out.1 HO11.out.2.1 (bV (dgL sA))
                generalize WO11.setRow WO1.heap.size (bV (dgL sA)) = WZ at *
                refine hK' _ _ (hbw) ?_
                clear hK' K'
                go_simp
                refine wpAnyH_one (i := 11) (by kernel_rfl) rfl (by kernel_rfl) (fun K' hK' => ?_)
                refine wp_store_row 26 (.tmp 6) (.tmp 42) (by kernel_rfl) WO7.heap.size (bV (dgL sB)) (by kernel_rfl) (by kernel_rfl) 26 _ hf6 (by rw [bV_size, dgL_len]; kernel_rfl) (by rw [bV_size, dgL_len]; rfl) (bV_one _) ?_
                have hg6 := setRow_heap _ WO7.heap.size _ (bV (dgL sB)) 26 (0, 0) hf6
                have hg5 := (setRow_other WZ WO7.heap.size WO1.heap.size (bV (dgL sB)) HO11.out.2.2.2.1).trans hf5
                have hbw2 := below_setRow hbw HO11.out.2.2.2.2.1 (bV (dgL sB))
                have HM := Lib.hid (show TwoD (dgL sA) (dgL sB) W0 (.pointer (some ⟨WO1.heap.size, 0, none⟩)) (.pointer (some ⟨WO7.heap.size, 0, none⟩)) (WZ.setRow WO7.heap.size (bV (dgL sB))) from ⟨_, _, rfl, rfl, hg5, hg6, hbw2, HO11.out.2.1, HO11.out.2.2.2.2.1, HO11.out.2.2.2.1⟩)
                generalize WZ.setRow WO7.heap.size (bV (dgL sB)) = WY at *
                clear hg6 hg5 hf5 hf6 hbw
                refine hK' _ _ (hbw2) ?_
                clear hK' K'
                go_simp
                refine wpAnyH_done (by kernel_rfl) ?_ _
                refine NoPanic.normal ?_
                go_simp
                go_wp2_with fail
                go_meet
                case rel => exact HM.out
            · go_simp
              have HO12 := Lib.hid (show Below W0.heap.size W0 _ ∧ W0.heap.size ≤ WO1.heap.size ∧ _ from ⟨HO1.out.alloc HO1.out.size (.cells (List.toArray (.int .u8 0 :: .int .u8 0 :: .int .u8 0 :: .int .u8 0 :: .int .u8 0 :: .int .u8 0 :: .int .u8 0 :: .int .u8 0 :: .int .u8 0 :: .int .u8 0 :: .int .u8 0 :: .int .u8 0 :: .int .u8 0 :: .int .u8 0 :: .int .u8 0 :: .int .u8 0 :: .int .u8 0 :: .int .u8 0 :: .int .u8 0 :: .int .u8 0 :: .int .u8 0 :: .int .u8 0 :: .int .u8 0 :: .int .u8 0 :: .int .u8 0 :: .int .u8 0 :: .int .u8 0 :: .int .u8 0 :: .int .u8 0 :: .int .u8 0 :: .int .u8 0 :: .int .u8 0 :: [])) 26), HO1.out.size, blk_new WO1 (.cells (List.toArray (.int .u8 0 :: .int .u8 0 :: .int .u8 0 :: .int .u8 0 :: .int .u8 0 :: .int .u8 0 :: .int .u8 0 :: .int .u8 0 :: .int .u8 0 :: .int .u8 0 :: .int .u8 0 :: .int .u8 0 :: .int .u8 0 :: .int .u8 0 :: .int .u8 0 :: .int .u8 0 :: .int .u8 0 :: .int .u8 0 :: .int .u8 0 :: .int .u8 0 :: .int .u8 0 :: .int .u8 0 :: .int .u8 0 :: .int .u8 0 :: .int .u8 0 :: .int .u8 0 :: .int .u8 0 :: .int .u8 0 :: .int .u8 0 :: .int .u8 0 :: .int .u8 0 :: .int .u8 0 :: [])) 26)⟩)
              generalize WO1.alloc (.cells (List.toArray (.int .u8 0 :: .int .u8 0 :: .int .u8 0 :: .int .u8 0 :: .int .u8 0 :: .int .u8 0 :: .int .u8 0 :: .int .u8 0 :: .int .u8 0 :: .int .u8 0 :: .int .u8 0 :: .int .u8 0 :: .int .u8 0 :: .int .u8 0 :: .int .u8 0 :: .int .u8 0 :: .int .u8 0 :: .int .u8 0 :: .int .u8 0 :: .int .u8 0 :: .int .u8 0 :: .int .u8 0 :: .int .u8 0 :: .int .u8 0 :: .int .u8 0 :: .int .u8 0 :: .int .u8 0 :: .int .u8 0 :: .int .u8 0 :: .int .u8 0 :: .int .u8 0 :: .int .u8 0 :: [])) 26) = WO12 at *
              refine hK' _ _ (HO12.out.1) ?_
              clear hK' K'
              go_simp
              refine wpAnyH_two (i := 7) (j := 8) (by kernel_rfl) rfl rfl (by kernel_rfl) (by kernel_rfl) (fun K' hK' => ?_) (fun K' hK' => ?_)
              · go_simp
                refine (tree_any (m - k) (by omega) (some ⟨lb, k * 32, none⟩) lb (k * 32) (lcap - k) (L.drop k) _ (HDR.out.below (HO12.out.1) (Nat.le_refl _)) (by omega) (HW.out.2.2.below (HO12.out.1))).mono ?_
                rintro e WO13 ⟨rfl, hb13⟩
                rw [bV_dg, ← HS.out.2.1]
                have HO13 := Lib.hid (show Below W0.heap.size W0 WO13 ∧ _ ∧ _ from ⟨below_after HO12.out.1 hb13 HO12.out.1.size, HO12.out.2.1, blk_below HO12.out.2.2 hb13 (Array.getElem?_eq_some_iff.1 HO12.out.2.2).1⟩)
                clear hb13
                refine hK' _ _ (HO13.out.1) ?_
                clear hK' K'
                go_simp
                refine wpAnyH_one (i := 8) (by kernel_rfl) rfl (by kernel_rfl) (fun K' hK' => ?_)
                go_simp
                have HO14 := Lib.hid (show Below W0.heap.size W0 _ ∧ W0.heap.size ≤ WO1.heap.size ∧ _ ∧ WO1.heap.size ≠ WO13.heap.size ∧ W0.heap.size ≤ WO13.heap.size ∧ _ from ⟨HO13.out.1.alloc HO13.out.1.size (.cells (List.toArray (.int .u8 0 :: .int .u8 0 :: .int .u8 0 :: .int .u8 0 :: .int .u8 0 :: .int .u8 0 :: .int .u8 0 :: .int .u8 0 :: .int .u8 0 :: .int .u8 0 :: .int .u8 0 :: .int .u8 0 :: .int .u8 0 :: .int .u8 0 :: .int .u8 0 :: .int .u8 0 :: .int .u8 0 :: .int .u8 0 :: .int .u8 0 :: .int .u8 0 :: .int .u8 0 :: .int .u8 0 :: .int .u8 0 :: .int .u8 0 :: .int .u8 0 :: .int .u8 0 :: .int .u8 0 :: .int .u8 0 :: .int .u8 0 :: .int .u8 0 :: .int .u8 0 :: .int .u8 0 :: [])) 26), HO13.out.2.1, blk_alloc HO13.out.2.2 (.cells (List.toArray (.int .u8 0 :: .int .u8 0 :: .int .u8 0 :: .int .u8 0 :: .int .u8 0 :: .int .u8 0 :: .int .u8 0 :: .int .u8 0 :: .int .u8 0 :: .int .u8 0 :: .int .u8 0 :: .int .u8 0 :: .int .u8 0 :: .int .u8 0 :: .int .u8 0 :: .int .u8 0 :: .int .u8 0 :: .int .u8 0 :: .int .u8 0 :: .int .u8 0 :: .int .u8 0 :: .int .u8 0 :: .int .u8 0 :: .int .u8 0 :: .int .u8 0 :: .int .u8 0 :: .int .u8 0 :: .int .u8 0 :: .int .u8 0 :: .int .u8 0 :: .int .u8 0 :: .int .u8 0 :: [])) 26), other_block HO13.out.2.2 (Nat.le_refl _), HO13.out.1.size, blk_new WO13 (.cells (List.toArray (.int .u8 0 :: .int .u8 0 :: .int .u8 0 :: .int .u8 0 :: .int .u8 0 :: .int .u8 0 :: .int .u8 0 :: .int .u8 0 :: .int .u8 0 :: .int .u8 0 :: .int .u8 0 :: .int .u8 0 :: .int .u8 0 :: .int .u8 0 :: .int .u8 0 :: .int .u8 0 :: .int .u8 0 :: .int .u8 0 :: .int .u8 0 :: .int .u8 0 :: .int .u8 0 :: .int .u8 0 :: .int .u8 0 :: .int .u8 0 :: .int .u8 0 :: .int .u8 0 :: .int .u8 0 :: .int .u8 0 :: .int .u8 0 :: .int .u8 0 :: .int .u8 0 :: .int .u8 0 :: [])) 26)⟩)
                generalize WO13.alloc (.cells (List.toArray (.int .u8 0 :: .int .u8 0 :: .int .u8 0 :: .int .u8 0 :: .int .u8 0 :: .int .u8 0 :: .int .u8 0 :: .int .u8 0 :: .int .u8 0 :: .int .u8 0 :: .int .u8 0 :: .int .u8 0 :: .int .u8 0 :: .int .u8 0 :: .int .u8 0 :: .int .u8 0 :: .int .u8 0 :: .int .u8 0 :: .int .u8 0 :: .int .u8 0 :: .int .u8 0 :: .int .u8 0 :: .int .u8 0 :: .int .u8 0 :: .int .u8 0 :: .int .u8 0 :: .int .u8 0 :: .int .u8 0 :: .int .u8 0 :: .int .u8 0 :: .int .u8 0 :: .int .u8 0 :: [])) 26) = WO14 at *
                refine hK' _ _ (HO14.out.1) ?_
                clear hK' K'
                go_simp
                refine wpAnyH_one (i := 10) (by kernel_rfl) rfl (by kernel_rfl) (fun K' hK' => ?_)
                refine wp_store_row 26 (.tmp 5) (.tmp 38) (by kernel_rfl) WO13.heap.size (bV (dgL sA)) (by kernel_rfl) (by kernel_rfl) 26 _ HO14.out.2.2.2.2.2 (by rw [bV_size, dgL_len]; kernel_rfl) (by rw [bV_size, dgL_len]; rfl) (bV_one _) ?_
                have hf5 := setRow_heap _ WO13.heap.size _ (bV (dgL sA)) 26 (0, 0) HO14.out.2.2.2.2.2
                have hf6 := (setRow_other WO14 WO13.heap.size WO1.heap.size (bV (dgL sA)) HO14.out.2.2.2.1).trans HO14.out.2.2.1
                have hbw := below_setRow HO14.out.1 HO14.out.2.2.2.2.1 (bV (dgL sA))
                generalize WO14.setRow WO13.heap.size (bV (dgL sA)) = WZ at *
                refine hK' _ _ (hbw) ?_
                clear hK' K'
                go_simp
                refine wpAnyH_one (i := 11) (by kernel_rfl) rfl (by kernel_rfl) (fun K' hK' => ?_)
                refine wp_store_row 26 (.tmp 6) (.tmp 42) (by kernel_rfl) WO1.heap.size (bV (dgL sB)) (by kernel_rfl) (by kernel_rfl) 26 _ hf6 (by rw [bV_size, dgL_len]; kernel_rfl) (by rw [bV_size, dgL_len]; rfl) (bV_one _) ?_
                have hg6 := setRow_heap _ WO1.heap.size _ (bV (dgL sB)) 26 (0, 0) hf6
                have hg5 := (setRow_other WZ WO1.heap.size WO13.heap.size (bV (dgL sB)) (Ne.symm HO14.out.2.2.2.1)).trans hf5
                have hbw2 := below_setRow hbw HO14.out.2.1 (bV (dgL sB))
                have HM := Lib.hid (show TwoD (dgL sA) (dgL sB) W0 (.pointer (some ⟨WO13.heap.size, 0, none⟩)) (.pointer (some ⟨WO1.heap.size, 0, none⟩)) (WZ.setRow WO1.heap.size (bV (dgL sB))) from ⟨_, _, rfl, rfl, hg5, hg6, hbw2, HO14.out.2.2.2.2.1, HO14.out.2.1, (Ne.symm HO14.out.2.2.2.1)⟩)
                generalize WZ.setRow WO1.heap.size (bV (dgL sB)) = WY at *
                clear hg6 hg5 hf5 hf6 hbw
                refine hK' _ _ (hbw2) ?_
                clear hK' K'
                go_simp
                refine wpAnyH_done (by kernel_rfl) ?_ _
                refine NoPanic.normal ?_
                go_simp
                go_wp2_with fail
                go_meet
                case rel => exact HM.out
              · go_simp
                have HO15 := Lib.hid (show Below W0.heap.size W0 _ ∧ W0.heap.size ≤ WO1.heap.size ∧ _ ∧ WO1.heap.size ≠ WO12.heap.size ∧ W0.heap.size ≤ WO12.heap.size ∧ _ from ⟨HO12.out.1.alloc HO12.out.1.size (.cells (List.toArray (.int .u8 0 :: .int .u8 0 :: .int .u8 0 :: .int .u8 0 :: .int .u8 0 :: .int .u8 0 :: .int .u8 0 :: .int .u8 0 :: .int .u8 0 :: .int .u8 0 :: .int .u8 0 :: .int .u8 0 :: .int .u8 0 :: .int .u8 0 :: .int .u8 0 :: .int .u8 0 :: .int .u8 0 :: .int .u8 0 :: .int .u8 0 :: .int .u8 0 :: .int .u8 0 :: .int .u8 0 :: .int .u8 0 :: .int .u8 0 :: .int .u8 0 :: .int .u8 0 :: .int .u8 0 :: .int .u8 0 :: .int .u8 0 :: .int .u8 0 :: .int .u8 0 :: .int .u8 0 :: [])) 26), HO12.out.2.1, blk_alloc HO12.out.2.2 (.cells (List.toArray (.int .u8 0 :: .int .u8 0 :: .int .u8 0 :: .int .u8 0 :: .int .u8 0 :: .int .u8 0 :: .int .u8 0 :: .int .u8 0 :: .int .u8 0 :: .int .u8 0 :: .int .u8 0 :: .int .u8 0 :: .int .u8 0 :: .int .u8 0 :: .int .u8 0 :: .int .u8 0 :: .int .u8 0 :: .int .u8 0 :: .int .u8 0 :: .int .u8 0 :: .int .u8 0 :: .int .u8 0 :: .int .u8 0 :: .int .u8 0 :: .int .u8 0 :: .int .u8 0 :: .int .u8 0 :: .int .u8 0 :: .int .u8 0 :: .int .u8 0 :: .int .u8 0 :: .int .u8 0 :: [])) 26), other_block HO12.out.2.2 (Nat.le_refl _), HO12.out.1.size, blk_new WO12 (.cells (List.toArray (.int .u8 0 :: .int .u8 0 :: .int .u8 0 :: .int .u8 0 :: .int .u8 0 :: .int .u8 0 :: .int .u8 0 :: .int .u8 0 :: .int .u8 0 :: .int .u8 0 :: .int .u8 0 :: .int .u8 0 :: .int .u8 0 :: .int .u8 0 :: .int .u8 0 :: .int .u8 0 :: .int .u8 0 :: .int .u8 0 :: .int .u8 0 :: .int .u8 0 :: .int .u8 0 :: .int .u8 0 :: .int .u8 0 :: .int .u8 0 :: .int .u8 0 :: .int .u8 0 :: .int .u8 0 :: .int .u8 0 :: .int .u8 0 :: .int .u8 0 :: .int .u8 0 :: .int .u8 0 :: [])) 26)⟩)
                generalize WO12.alloc (.cells (List.toArray (.int .u8 0 :: .int .u8 0 :: .int .u8 0 :: .int .u8 0 :: .int .u8 0 :: .int .u8 0 :: .int .u8 0 :: .int .u8 0 :: .int .u8 0 :: .int .u8 0 :: .int .u8 0 :: .int .u8 0 :: .int .u8 0 :: .int .u8 0 :: .int .u8 0 :: .int .u8 0 :: .int .u8 0 :: .int .u8 0 :: .int .u8 0 :: .int .u8 0 :: .int .u8 0 :: .int .u8 0 :: .int .u8 0 :: .int .u8 0 :: .int .u8 0 :: .int .u8 0 :: .int .u8 0 :: .int .u8 0 :: .int .u8 0 :: .int .u8 0 :: .int .u8 0 :: .int .u8 0 :: [])) 26) = WO15 at *
                refine hK' _ _ (HO15.out.1) ?_
                clear hK' K'
                go_simp
                refine wpAnyH_one (i := 7) (by kernel_rfl) rfl (by kernel_rfl) (fun K' hK' => ?_)
                go_simp
                refine (tree_any (m - k) (by omega) (some ⟨lb, k * 32, none⟩) lb (k * 32) (lcap - k) (L.drop k) _ (HDR.out.below (HO15.out.1) (Nat.le_refl _)) (by omega) (HW.out.2.2.below (HO15.out.1))).mono ?_
                rintro e WO16 ⟨rfl, hb16⟩
                rw [bV_dg, ← HS.out.2.1]
                have HO16 := Lib.hid (show Below W0.heap.size W0 WO16 ∧ _ ∧ _ ∧ _ ∧ _ ∧ _ from ⟨below_after HO15.out.1 hb16 HO15.out.1.size, HO15.out.2.1, blk_below HO15.out.2.2.1 hb16 (Array.getElem?_eq_some_iff.1 HO15.out.2.2.1).1, HO15.out.2.2.2.1, HO15.out.2.2.2.2.1, blk_below HO15.out.2.2.2.2.2 hb16 (Array.getElem?_eq_some_iff.1 HO15.out.2.2.2.2.2).1⟩)
                clear hb16
                refine hK' _ _ (HO16.out.1) ?_
                clear hK' K'
                go_simp
                refine wpAnyH_one (i := 10) (by kernel_rfl) rfl (by kernel_rfl) (fun K' hK' => ?_)
                refine wp_store_row 26 (.tmp 5) (.tmp 38) (by kernel_rfl) WO12.heap.size (bV (dgL sA)) (by kernel_rfl) (by kernel_rfl) 26 _ HO16.out.2.2.2.2.2 (by rw [bV_size, dgL_len]; kernel_rfl) (by rw [bV_size, dgL_len]; rfl) (bV_one _) ?_
                have hf5 := setRow_heap _ WO12.heap.size _ (bV (dgL sA)) 26 (0, 0) HO16.out.2.2.2.2.2
                have hf6 := (setRow_other WO16 WO12.heap.size WO1.heap.size (bV (dgL sA)) HO16.out.2.2.2.1).trans HO16.out.2.2.1
                have hbw := below_setRow HO16.out.1 HO16.out.2.2.2.2.1 (bV (dgL sA))
                generalize WO16.setRow WO12.heap.size (bV (dgL sA)) = WZ at *
                refine hK' _ _ (hbw) ?_
                clear hK' K'
                go_simp
                refine wpAnyH_one (i := 11) (by kernel_rfl) rfl (by kernel_rfl) (fun K' hK' => ?_)
                refine wp_store_row 26 (.tmp 6) (.tmp 42) (by kernel_rfl) WO1.heap.size (bV (dgL sB)) (by kernel_rfl) (by kernel_rfl) 26 _ hf6 (by rw [bV_size, dgL_len]; kernel_rfl) (by rw [bV_size, dgL_len]; rfl) (bV_one _) ?_
                have hg6 := setRow_heap _ WO1.heap.size _ (bV (dgL sB)) 26 (0, 0) hf6
                have hg5 := (setRow_other WZ WO1.heap.size WO12.heap.size (bV (dgL sB)) (Ne.symm HO16.out.2.2.2.1)).trans hf5
                have hbw2 := below_setRow hbw HO16.out.2.1 (bV (dgL sB))
                have HM := Lib.hid (show TwoD (dgL sA) (dgL sB) W0 (.pointer (some ⟨WO12.heap.size, 0, none⟩)) (.pointer (some ⟨WO1.heap.size, 0, none⟩)) (WZ.setRow WO1.heap.size (bV (dgL sB))) from ⟨_, _, rfl, rfl, hg5, hg6, hbw2, HO16.out.2.2.2.2.1, HO16.out.2.1, (Ne.symm HO16.out.2.2.2.1)⟩)
                generalize WZ.setRow WO1.heap.size (bV (dgL sB)) = WY at *
                clear hg6 hg5 hf5 hf6 hbw
                refine hK' _ _ (hbw2) ?_
                clear hK' K'
                go_simp
                refine wpAnyH_done (by kernel_rfl) ?_ _
                refine NoPanic.normal ?_
                go_simp
                go_wp2_with fail
                go_meet
                case rel => exact HM.out
          · go_simp
            have HO17 := Lib.hid (show Below W0.heap.size W0 _ ∧ W0.heap.size ≤ W0.heap.size ∧ _ from ⟨((Below.refl W0.heap.size W0).alloc (Nat.le_refl _) (.cells (List.toArray (.int .u8 0 :: .int .u8 0 :: .int .u8 0 :: .int .u8 0 :: .int .u8 0 :: .int .u8 0 :: .int .u8 0 :: .int .u8 0 :: .int .u8 0 :: .int .u8 0 :: .int .u8 0 :: .int .u8 0 :: .int .u8 0 :: .int .u8 0 :: .int .u8 0 :: .int .u8 0 :: .int .u8 0 :: .int .u8 0 :: .int .u8 0 :: .int .u8 0 :: .int .u8 0 :: .int .u8 0 :: .int .u8 0 :: .int .u8 0 :: .int .u8 0 :: .int .u8 0 :: .int .u8 0 :: .int .u8 0 :: .int .u8 0 :: .int .u8 0 :: .int .u8 0 :: .int .u8 0 :: [])) 26)).drew, Nat.le_refl _, blk_drew (blk_new W0 (.cells (List.toArray (.int .u8 0 :: .int .u8 0 :: .int .u8 0 :: .int .u8 0 :: .int .u8 0 :: .int .u8 0 :: .int .u8 0 :: .int .u8 0 :: .int .u8 0 :: .int .u8 0 :: .int .u8 0 :: .int .u8 0 :: .int .u8 0 :: .int .u8 0 :: .int .u8 0 :: .int .u8 0 :: .int .u8 0 :: .int .u8 0 :: .int .u8 0 :: .int .u8 0 :: .int .u8 0 :: .int .u8 0 :: .int .u8 0 :: .int .u8 0 :: .int .u8 0 :: .int .u8 0 :: .int .u8 0 :: .int .u8 0 :: .int .u8 0 :: .int .u8 0 :: .int .u8 0 :: .int .u8 0 :: [])) 26))⟩)
            generalize (W0.alloc (.cells (List.toArray (.int .u8 0 :: .int .u8 0 :: .int .u8 0 :: .int .u8 0 :: .int .u8 0 :: .int .u8 0 :: .int .u8 0 :: .int .u8 0 :: .int .u8 0 :: .int .u8 0 :: .int .u8 0 :: .int .u8 0 :: .int .u8 0 :: .int .u8 0 :: .int .u8 0 :: .int .u8 0 :: .int .u8 0 :: .int .u8 0 :: .int .u8 0 :: .int .u8 0 :: .int .u8 0 :: .int .u8 0 :: .int .u8 0 :: .int .u8 0 :: .int .u8 0 :: .int .u8 0 :: .int .u8 0 :: .int .u8 0 :: .int .u8 0 :: .int .u8 0 :: .int .u8 0 :: .int .u8 0 :: [])) 26)).drew = WO17 at *
            refine hK' _ _ (HO17.out.1) ?_
            clear hK' K'
            go_simp
            refine wpAnyH_two (i := 3) (j := 9) (by kernel_rfl) rfl rfl (by kernel_rfl) (by kernel_rfl) (fun K' hK' => ?_) (fun K' hK' => ?_)
            · go_simp
              refine (tree_any k (by omega) (some ⟨lb, 0, none⟩) lb 0 lcap (L.take k) _ ((HW.out.1.take (Nat.le_of_lt hkm) hk0).below (HO17.out.1) (Nat.le_refl _)) (by omega) (HW.out.2.2.below (HO17.out.1))).mono ?_
              rintro e WO18 ⟨rfl, hb18⟩
              rw [bV_dg, ← HS.out.1]
              have HO18 := Lib.hid (show Below W0.heap.size W0 WO18 ∧ _ ∧ _ from ⟨below_after HO17.out.1 hb18 HO17.out.1.size, HO17.out.2.1, blk_below HO17.out.2.2 hb18 (Array.getElem?_eq_some_iff.1 HO17.out.2.2).1⟩)
              clear hb18
              refine hK' _ _ (HO18.out.1) ?_
              clear hK' K'
              go_simp
              refine wpAnyH_two (i := 7) (j := 9) (by kernel_rfl) rfl rfl (by kernel_rfl) (by kernel_rfl) (fun K' hK' => ?_) (fun K' hK' => ?_)
              · go_simp
                refine (tree_any (m - k) (by omega) (some ⟨lb, k * 32, none⟩) lb (k * 32) (lcap - k) (L.drop k) _ (HDR.out.below (HO18.out.1) (Nat.le_refl _)) (by omega) (HW.out.2.2.below (HO18.out.1))).mono ?_
                rintro e WO19 ⟨rfl, hb19⟩
                rw [bV_dg, ← HS.out.2.1]
                have HO19 := Lib.hid (show Below W0.heap.size W0 WO19 ∧ _ ∧ _ from ⟨below_after HO18.out.1 hb19 HO18.out.1.size, HO18.out.2.1, blk_below HO18.out.2.2 hb19 (Array.getElem?_eq_some_iff.1 HO18.out.2.2).1⟩)
                clear hb19
                refine hK' _ _ (HO19.out.1) ?_
                clear hK' K'
                go_simp
                refine wpAnyH_one (i := 9) (by kernel_rfl) rfl (by kernel_rfl) (fun K' hK' => ?_)
                go_simp
                have HO20 := Lib.hid (show Below W0.heap.size W0 _ ∧ W0.heap.size ≤ W0.heap.size ∧ _ ∧ W0.heap.size ≠ WO19.heap.size ∧ W0.heap.size ≤ WO19.heap.size ∧ _ from ⟨HO19.out.1.alloc HO19.out.1.size (.cells (List.toArray (.int .u8 0 :: .int .u8 0 :: .int .u8 0 :: .int .u8 0 :: .int .u8 0 :: .int .u8 0 :: .int .u8 0 :: .int .u8 0 :: .int .u8 0 :: .int .u8 0 :: .int .u8 0 :: .int .u8 0 :: .int .u8 0 :: .int .u8 0 :: .int .u8 0 :: .int .u8 0 :: .int .u8 0 :: .int .u8 0 :: .int .u8 0 :: .int .u8 0 :: .int .u8 0 :: .int .u8 0 :: .int .u8 0 :: .int .u8 0 :: .int .u8 0 :: .int .u8 0 :: .int .u8 0 :: .int .u8 0 :: .int .u8 0 :: .int .u8 0 :: .int .u8 0 :: .int .u8 0 :: [])) 26), HO19.out.2.1, blk_alloc HO19.out.2.2 (.cells (List.toArray (.int .u8 0 :: .int .u8 0 :: .int .u8 0 :: .int .u8 0 :: .int .u8 0 :: .int .u8 0 :: .int .u8 0 :: .int .u8 0 :: .int .u8 0 :: .int .u8 0 :: .int .u8 0 :: .int .u8 0 :: .int .u8 0 :: .int .u8 0 :: .int .u8 0 :: .int .u8 0 :: .int .u8 0 :: .int .u8 0 :: .int .u8 0 :: .int .u8 0 :: .int .u8 0 :: .int .u8 0 :: .int .u8 0 :: .int .u8 0 :: .int .u8 0 :: .int .u8 0 :: .int .u8 0 :: .int .u8 0 :: .int .u8 0 :: .int .u8 0 :: .int .u8 0 :: .int .u8 0 :: [])) 26), other_block HO19.out.2.2 (Nat.le_refl _), HO19.out.1.size, blk_new WO19 (.cells (List.toArray (.int .u8 0 :: .int .u8 0 :: .int .u8 0 :: .int .u8 0 :: .int .u8 0 :: .int .u8 0 :: .int .u8 0 :: .int .u8 0 :: .int .u8 0 :: .int .u8 0 :: .int .u8 0 :: .int .u8 0 :: .int .u8 0 :: .int .u8 0 :: .int .u8 0 :: .int .u8 0 :: .int .u8 0 :: .int .u8 0 :: .int .u8 0 :: .int .u8 0 :: .int .u8 0 :: .int .u8 0 :: .int .u8 0 :: .int .u8 0 :: .int .u8 0 :: .int .u8 0 :: .int .u8 0 :: .int .u8 0 :: .int .u8 0 :: .int .u8 0 :: .int .u8 0 :: .int .u8 0 :: [])) 26)⟩)
                generalize WO19.alloc (.cells (List.toArray (.int .u8 0 :: .int .u8 0 :: .int .u8 0 :: .int .u8 0 :: .int .u8 0 :: .int .u8 0 :: .int .u8 0 :: .int .u8 0 :: .int .u8 0 :: .int .u8 0 :: .int .u8 0 :: .int .u8 0 :: .int .u8 0 :: .int .u8 0 :: .int .u8 0 :: .int .u8 0 :: .int .u8 0 :: .int .u8 0 :: .int .u8 0 :: .int .u8 0 :: .int .u8 0 :: .int .u8 0 :: .int .u8 0 :: .int .u8 0 :: .int .u8 0 :: .int .u8 0 :: .int .u8 0 :: .int .u8 0 :: .int .u8 0 :: .int .u8 0 :: .int .u8 0 :: .int .u8 0 :: [])) 26) = WO20 at *
                refine hK' _ _ (HO20.out.1) ?_
                clear hK' K'
                go_simp
                refine wpAnyH_one (i := 10) (by kernel_rfl) rfl (by kernel_rfl) (fun K' hK' => ?_)
                refine wp_store_row 26 (.tmp 5) (.tmp 38) (by kernel_rfl) W0.heap.size (bV (dgL sA)) (by kernel_rfl) (by kernel_rfl) 26 _ HO20.out.2.2.1 (by rw [bV_size, dgL_len]; kernel_rfl) (by rw [bV_size, dgL_len]; rfl) (bV_one _) ?_
                have hf5 := setRow_heap _ W0.heap.size _ (bV (dgL sA)) 26 (0, 0) HO20.out.2.2.1
                have hf6 := (setRow_other WO20 W0.heap.size WO19.heap.size (bV (dgL sA)) (Ne.symm HO20.out.2.2.2.1)).trans HO20.out.2.2.2.2.2
                have hbw := below_setRow HO20.out.1 HO20.out.2.1 (bV (dgL sA))
                generalize WO20.setRow W0.heap.size (bV (dgL sA)) = WZ at *
                refine hK' _ _ (hbw) ?_
                clear hK' K'
                go_simp
                refine wpAnyH_one (i := 11) (by kernel_rfl) rfl (by kernel_rfl) (fun K' hK' => ?_)
                refine wp_store_row 26 (.tmp 6) (.tmp 42) (by kernel_rfl) WO19.heap.size (bV (dgL sB)) (by kernel_rfl) (by kernel_rfl) 26 _ hf6 (by rw [bV_size, dgL_len]; kernel_rfl) (by rw [bV_size, dgL_len]; rfl) (bV_one _) ?_
                have hg6 := setRow_heap _ WO19.heap.size _ (bV (dgL sB)) 26 (0, 0) hf6
                have hg5 := (setRow_other WZ WO19.heap.size W0.heap.size (bV (dgL sB)) HO20.out.2.2.2.1).trans hf5
                have hbw2 := below_setRow hbw HO20.out.2.2.2.2.1 (bV (dgL sB))
                have HM := Lib.hid (show TwoD (dgL sA) (dgL sB) W0 (.pointer (some ⟨W0.heap.size, 0, none⟩)) (.pointer (some ⟨WO19.heap.size, 0, none⟩)) (WZ.setRow WO19.heap.size (bV (dgL sB))) from ⟨_, _, rfl, rfl, hg5, hg6, hbw2, HO20.out.2.1, HO20.out.2.2.2.2.1, HO20.out.2.2.2.1⟩)
                generalize WZ.setRow WO19.heap.size (bV (dgL sB)) = WY at *
                clear hg6 hg5 hf5 hf6 hbw
                refine hK' _ _ (hbw2) ?_
                clear hK' K'
                go_simp
                refine wpAnyH_done (by kernel_rfl) ?_ _
                refine NoPanic.normal ?_
                go_simp
                go_wp2_with fail
                go_meet
                case rel => exact HM.out
              · go_simp
                have HO21 := Lib.hid (show Below W0.heap.size W0 _ ∧ W0.heap.size ≤ W0.heap.size ∧ _ ∧ W0.heap.size ≠ WO18.heap.size ∧ W0.heap.size ≤ WO18.heap.size ∧ _ from ⟨HO18.out.1.alloc HO18.out.1.size (.cells (List.toArray (.int .u8 0 :: .int .u8 0 :: .int .u8 0 :: .int .u8 0 :: .int .u8 0 :: .int .u8 0 :: .int .u8 0 :: .int .u8 0 :: .int .u8 0 :: .int .u8 0 :: .int .u8 0 :: .int .u8 0 :: .int .u8 0 :: .int .u8 0 :: .int .u8 0 :: .int .u8 0 :: .int .u8 0 :: .int .u8 0 :: .int .u8 0 :: .int .u8 0 :: .int .u8 0 :: .int .u8 0 :: .int .u8 0 :: .int .u8 0 :: .int .u8 0 :: .int .u8 0 :: .int .u8 0 :: .int .u8 0 :: .int .u8 0 :: .int .u8 0 :: .int .u8 0 :: .int .u8 0 :: [])) 26), HO18.out.2.1, blk_alloc HO18.out.2.2 (.cells (List.toArray (.int .u8 0 :: .int .u8 0 :: .int .u8 0 :: .int .u8 0 :: .int .u8 0 :: .int .u8 0 :: .int .u8 0 :: .int .u8 0 :: .int .u8 0 :: .int .u8 0 :: .int .u8 0 :: .int .u8 0 :: .int .u8 0 :: .int .u8 0 :: .int .u8 0 :: .int .u8 0 :: .int .u8 0 :: .int .u8 0 :: .int .u8 0 :: .int .u8 0 :: .int .u8 0 :: .int .u8 0 :: .int .u8 0 :: .int .u8 0 :: .int .u8 0 :: .int .u8 0 :: .int .u8 0 :: .int .u8 0 :: .int .u8 0 :: .int .u8 0 :: .int .u8 0 :: .int .u8 0 :: [])) 26), other_block HO18.out.2.2 (Nat.le_refl _), HO18.out.1.size, blk_new WO18 (.cells (List.toArray (.int .u8 0 :: .int .u8 0 :: .int .u8 0 :: .int .u8 0 :: .int .u8 0 :: .int .u8 0 :: .int .u8 0 :: .int .u8 0 :: .int .u8 0 :: .int .u8 0 :: .int .u8 0 :: .int .u8 0 :: .int .u8 0 :: .int .u8 0 :: .int .u8 0 :: .int .u8 0 :: .int .u8 0 :: .int .u8 0 :: .int .u8 0 :: .int .u8 0 :: .int .u8 0 :: .int .u8 0 :: .int .u8 0 :: .int .u8 0 :: .int .u8 0 :: .int .u8 0 :: .int .u8 0 :: .int .u8 0 :: .int .u8 0 :: .int .u8 0 :: .int .u8 0 :: .int .u8 0 :: [])) 26)⟩)
                generalize WO18.alloc (.cells (List.toArray (.int .u8 0 :: .int .u8 0 :: .int .u8 0 :: .int .u8 0 :: .int .u8 0 :: .int .u8 0 :: .int .u8 0 :: .int .u8 0 :: .int .u8 0 :: .int .u8 0 :: .int .u8 0 :: .int .u8 0 :: .int .u8 0 :: .int .u8 0 :: .int .u8 0 :: .int .u8 0 :: .int .u8 0 :: .int .u8 0 :: .int .u8 0 :: .int .u8 0 :: .int .u8 0 :: .int .u8 0 :: .int .u8 0 :: .int .u8 0 :: .int .u8 0 :: .int .u8 0 :: .int .u8 0 :: .int .u8 0 :: .int .u8 0 :: .int .u8 0 :: .int .u8 0 :: .int .u8 0 :: [])) 26) = WO21 at *
                refine hK' _ _ (HO21.out.1) ?_
                clear hK' K'
                go_simp
                refine wpAnyH_one (i := 7) (by kernel_rfl) rfl (by kernel_rfl) (fun K' hK' => ?_)
                go_simp
                refine (tree_any (m - k) (by omega) (some ⟨lb, k * 32, none⟩) lb (k * 32) (lcap - k) (L.drop k) _ (HDR.out.below (HO21.out.1) (Nat.le_refl _)) (by omega) (HW.out.2.2.below (HO21.out.1))).mono ?_
                rintro e WO22 ⟨rfl, hb22⟩
                rw [bV_dg, ← HS.out.2.1]
                have HO22 := Lib.hid (show Below W0.heap.size W0 WO22 ∧ _ ∧ _ ∧ _ ∧ _ ∧ _ from ⟨below_after HO21.out.1 hb22 HO21.out.1.size, HO21.out.2.1, blk_below HO21.out.2.2.1 hb22 (Array.getElem?_eq_some_iff.1 HO21.out.2.2.1).1, HO21.out.2.2.2.1, HO21.out.2.2.2.2.1, blk_below HO21.out.2.2.2.2.2 hb22 (Array.getElem?_eq_some_iff.1 HO21.out.2.2.2.2.2).1⟩)
                clear hb22
                refine hK' _ _ (HO22.out.1) ?_
                clear hK' K'
                go_simp
                refine wpAnyH_one (i := 10) (by kernel_rfl) rfl (by kernel_rfl) (fun K' hK' => ?_)
                refine wp_store_row 26 (.tmp 5) (.tmp 38) (by kernel_rfl) W0.heap.size (bV (dgL sA)) (by kernel_rfl) (by kernel_rfl) 26 _ HO22.out.2.2.1 (by rw [bV_size, dgL_len]; kernel_rfl) (by rw [bV_size, dgL_len]; rfl) (bV_one _) ?_
                have hf5 := setRow_heap _ W0.heap.size _ (bV (dgL sA)) 26 (0, 0) HO22.out.2.2.1
                have hf6 := (setRow_other WO22 W0.heap.size WO18.heap.size (bV (dgL sA)) (Ne.symm HO22.out.2.2.2.1)).trans HO22.out.2.2.2.2.2
                have hbw := below_setRow HO22.out.1 HO22.out.2.1 (bV (dgL sA))
                generalize WO22.setRow W0.heap.size (bV (dgL sA)) = WZ at *
                refine hK' _ _ (hbw) ?_
                clear hK' K'
                go_simp
                refine wpAnyH_one (i := 11) (by kernel_rfl) rfl (by kernel_rfl) (fun K' hK' => ?_)
                refine wp_store_row 26 (.tmp 6) (.tmp 42) (by kernel_rfl) WO18.heap.size (bV (dgL sB)) (by kernel_rfl) (by kernel_rfl) 26 _ hf6 (by rw [bV_size, dgL_len]; kernel_rfl) (by rw [bV_size, dgL_len]; rfl) (bV_one _) ?_
                have hg6 := setRow_heap _ WO18.heap.size _ (bV (dgL sB)) 26 (0, 0) hf6
                have hg5 := (setRow_other WZ WO18.heap.size W0.heap.size (bV (dgL sB)) HO22.out.2.2.2.1).trans hf5
                have hbw2 := below_setRow hbw HO22.out.2.2.2.2.1 (bV (dgL sB))
                have HM := Lib.hid (show TwoD (dgL sA) (dgL sB) W0 (.pointer (some ⟨W0.heap.size, 0, none⟩)) (.pointer (some ⟨WO18.heap.size, 0, none⟩)) (WZ.setRow WO18.heap.size (bV (dgL sB))) from ⟨_, _, rfl, rfl, hg5, hg6, hbw2, HO22.out.2.1, HO22.out.2.2.2.2.1, HO22.out.2.2.2.1⟩)
                generalize WZ.setRow WO18.heap.size (bV (dgL sB)) = WY at *
                clear hg6 hg5 hf5 hf6 hbw
                refine hK' _ _ (hbw2) ?_
                clear hK' K'
                go_simp
                refine wpAnyH_done (by kernel_rfl) ?_ _
                refine NoPanic.normal ?_
                go_simp
                go_wp2_with fail
                go_meet
                case rel => exact HM.out
            · go_simp
              have HO23 := Lib.hid (show Below W0.heap.size W0 _ ∧ W0.heap.size ≤ W0.heap.size ∧ _ ∧ W0.heap.size ≠ WO17.heap.size ∧ W0.heap.size ≤ WO17.heap.size ∧ _ from ⟨HO17.out.1.alloc HO17.out.1.size (.cells (List.toArray (.int .u8 0 :: .int .u8 0 :: .int .u8 0 :: .int .u8 0 :: .int .u8 0 :: .int .u8 0 :: .int .u8 0 :: .int .u8 0 :: .int .u8 0 :: .int .u8 0 :: .int .u8 0 :: .int .u8 0 :: .int .u8 0 :: .int .u8 0 :: .int .u8 0 :: .int .u8 0 :: .int .u8 0 :: .int .u8 0 :: .int .u8 0 :: .int .u8 0 :: .int .u8 0 :: .int .u8 0 :: .int .u8 0 :: .int .u8 0 :: .int .u8 0 :: .int .u8 0 :: .int .u8 0 :: .int .u8 0 :: .int .u8 0 :: .int .u8 0 :: .int .u8 0 :: .int .u8 0 :: [])) 26), HO17.out.2.1, blk_alloc HO17.out.2.2 (.cells (List.toArray (.int .u8 0 :: .int .u8 0 :: .int .u8 0 :: .int .u8 0 :: .int .u8 0 :: .int .u8 0 :: .int .u8 0 :: .int .u8 0 :: .int .u8 0 :: .int .u8 0 :: .int .u8 0 :: .int .u8 0 :: .int .u8 0 :: .int .u8 0 :: .int .u8 0 :: .int .u8 0 :: .int .u8 0 :: .int .u8 0 :: .int .u8 0 :: .int .u8 0 :: .int .u8 0 :: .int .u8 0 :: .int .u8 0 :: .int .u8 0 :: .int .u8 0 :: .int .u8 0 :: .int .u8 0 :: .int .u8 0 :: .int .u8 0 :: .int .u8 0 :: .int .u8 0 :: .int .u8 0 :: [])) 26), other_block HO17.out.2.2 (Nat.le_refl _), HO17.out.1.size, blk_new WO17 (.cells (List.toArray (.int .u8 0 :: .int .u8 0 :: .int .u8 0 :: .int .u8 0 :: .int .u8 0 :: .int .u8 0 :: .int .u8 0 :: .int .u8 0 :: .int .u8 0 :: .int .u8 0 :: .int .u8 0 :: .int .u8 0 :: .int .u8 0 :: .int .u8 0 :: .int .u8 0 :: .int .u8 0 :: .int .u8 0 :: .int .u8 0 :: .int .u8 0 :: .int .u8 0 :: .int .u8 0 :: .int .u8 0 :: .int .u8 0 :: .int .u8 0 :: .int .u8 0 :: .int .u8 0 :: .int .u8 0 :: .int .u8 0 :: .int .u8 0 :: .int .u8 0 :: .int .u8 0 :: .int .u8 0 :: [])) 26)⟩)
              generalize WO17.alloc (.cells (List.toArray (.int .u8 0 :: .int .u8 0 :: .int .u8 0 :: .int .u8 0 :: .int .u8 0 :: .int .u8 0 :: .int .u8 0 :: .int .u8 0 :: .int .u8 0 :: .int .u8 0 :: .int .u8 0 :: .int .u8 0 :: .int .u8 0 :: .int .u8 0 :: .int .u8 0 :: .int .u8 0 :: .int .u8 0 :: .int .u8 0 :: .int .u8 0 :: .int .u8 0 :: .int .u8 0 :: .int .u8 0 :: .int .u8 0 :: .int .u8 0 :: .int .u8 0 :: .int .u8 0 :: .int .u8 0 :: .int .u8 0 :: .int .u8 0 :: .int .u8 0 :: .int .u8 0 :: .int .u8 0 :: [])) 26) = WO23 at *
              refine hK' _ _ (HO23.out.1) ?_
              clear hK' K'
              go_simp
              refine wpAnyH_one (i := 3) (by kernel_rfl) rfl (by kernel_rfl) (fun K' hK' => ?_)
              go_simp
              refine (tree_any k (by omega) (some ⟨lb, 0, none⟩) lb 0 lcap (L.take k) _ ((HW.out.1.take (Nat.le_of_lt hkm) hk0).below (HO23.out.1) (Nat.le_refl _)) (by omega) (HW.out.2.2.below (HO23.out.1))).mono ?_
              rintro e WO24 ⟨rfl, hb24⟩
              rw [bV_dg, ← HS.out.1]
              have HO24 := Lib.hid (show Below W0.heap.size W0 WO24 ∧ _ ∧ _ ∧ _ ∧ _ ∧ _ from ⟨below_after HO23.out.1 hb24 HO23.out.1.size, HO23.out.2.1, blk_below HO23.out.2.2.1 hb24 (Array.getElem?_eq_some_iff.1 HO23.out.2.2.1).1, HO23.out.2.2.2.1, HO23.out.2.2.2.2.1, blk_below HO23.out.2.2.2.2.2 hb24 (Array.getElem?_eq_some_iff.1 HO23.out.2.2.2.2.2).1⟩)
              clear hb24
              refine hK' _ _ (HO24.out.1) ?_
              clear hK' K'
              go_simp
              refine wpAnyH_one (i := 7) (by kernel_rfl) rfl (by kernel_rfl) (fun K' hK' => ?_)
              go_simp
              refine (tree_any (m - k) (by omega) (some ⟨lb, k * 32, none⟩) lb (k * 32) (lcap - k) (L.drop k) _ (HDR.out.below (HO24.out.1) (Nat.le_refl _)) (by omega) (HW.out.2.2.below (HO24.out.1))).mono ?_
              rintro e WO25 ⟨rfl, hb25⟩
              rw [bV_dg, ← HS.out.2.1]
              have HO25 := Lib.hid (show Below W0.heap.size W0 WO25 ∧ _ ∧ _ ∧ _ ∧ _ ∧ _ from ⟨below_after HO24.out.1 hb25 HO24.out.1.size, HO24.out.2.1, blk_below HO24.out.2.2.1 hb25 (Array.getElem?_eq_some_iff.1 HO24.out.2.2.1).1, HO24.out.2.2.2.1, HO24.out.2.2.2.2.1, blk_below HO24.out.2.2.2.2.2 hb25 (Array.getElem?_eq_some_iff.1 HO24.out.2.2.2.2.2).1⟩)
              clear hb25
              refine hK' _ _ (HO25.out.1) ?_
              clear hK' K'
              go_simp
              refine wpAnyH_one (i := 10) (by kernel_rfl) rfl (by kernel_rfl) (fun K' hK' => ?_)
              refine wp_store_row 26 (.tmp 5) (.tmp 38) (by kernel_rfl) W0.heap.size (bV (dgL sA)) (by kernel_rfl) (by kernel_rfl) 26 _ HO25.out.2.2.1 (by rw [bV_size, dgL_len]; kernel_rfl) (by rw [bV_size, dgL_len]; rfl) (bV_one _) ?_
              have hf5 := setRow_heap _ W0.heap.size _ (bV (dgL sA)) 26 (0, 0) HO25.out.2.2.1
              have hf6 := (setRow_other WO25 W0.heap.size WO17.heap.size (bV (dgL sA)) (Ne.symm HO25.out.2.2.2.1)).trans HO25.out.2.2.2.2.2
              have hbw := below_setRow HO25.out.1 HO25.out.2.1 (bV (dgL sA))
              generalize WO25.setRow W0.heap.size (bV (dgL sA)) = WZ at *
              refine hK' _ _ (hbw) ?_
              clear hK' K'
              go_simp
              refine wpAnyH_one (i := 11) (by kernel_rfl) rfl (by kernel_rfl) (fun K' hK' => ?_)
              refine wp_store_row 26 (.tmp 6) (.tmp 42) (by kernel_rfl) WO17.heap.size (bV (dgL sB)) (by kernel_rfl) (by kernel_rfl) 26 _ hf6 (by rw [bV_size, dgL_len]; kernel_rfl) (by rw [bV_size, dgL_len]; rfl) (bV_one _) ?_
              have hg6 := setRow_heap _ WO17.heap.size _ (bV (dgL sB)) 26 (0, 0) hf6
              have hg5 := (setRow_other WZ WO17.heap.size W0.heap.size (bV (dgL sB)) HO25.out.2.2.2.1).trans hf5
              have hbw2 := below_setRow hbw HO25.out.2.2.2.2.1 (bV (dgL sB))
              have HM := Lib.hid (show TwoD (dgL sA) (dgL sB) W0 (.pointer (some ⟨W0.heap.size, 0, none⟩)) (.pointer (some ⟨WO17.heap.size, 0, none⟩)) (WZ.setRow WO17.heap.size (bV (dgL sB))) from ⟨_, _, rfl, rfl, hg5, hg6, hbw2, HO25.out.2.1, HO25.out.2.2.2.2.1, HO25.out.2.2.2.1⟩)
              generalize WZ.setRow WO17.heap.size (bV (dgL sB)) = WY at *
              clear hg6 hg5 hf5 hf6 hbw
              refine hK' _ _ (hbw2) ?_
              clear hK' K'
              go_simp
              refine wpAnyH_done (by kernel_rfl) ?_ _
              refine NoPanic.normal ?_
              go_simp
              go_wp2_with fail
              go_meet
              case rel => exact HM.out
          · go_simp
            have HO26 := Lib.hid (show Below W0.heap.size W0 _ ∧ W0.heap.size ≤ W0.heap.size ∧ _ from ⟨((Below.refl W0.heap.size W0).alloc (Nat.le_refl _) (.cells (List.toArray (.int .u8 0 :: .int .u8 0 :: .int .u8 0 :: .int .u8 0 :: .int .u8 0 :: .int .u8 0 :: .int .u8 0 :: .int .u8 0 :: .int .u8 0 :: .int .u8 0 :: .int .u8 0 :: .int .u8 0 :: .int .u8 0 :: .int .u8 0 :: .int .u8 0 :: .int .u8 0 :: .int .u8 0 :: .int .u8 0 :: .int .u8 0 :: .int .u8 0 :: .int .u8 0 :: .int .u8 0 :: .int .u8 0 :: .int .u8 0 :: .int .u8 0 :: .int .u8 0 :: .int .u8 0 :: .int .u8 0 :: .int .u8 0 :: .int .u8 0 :: .int .u8 0 :: .int .u8 0 :: [])) 26)).drew, Nat.le_refl _, blk_drew (blk_new W0 (.cells (List.toArray (.int .u8 0 :: .int .u8 0 :: .int .u8 0 :: .int .u8 0 :: .int .u8 0 :: .int .u8 0 :: .int .u8 0 :: .int .u8 0 :: .int .u8 0 :: .int .u8 0 :: .int .u8 0 :: .int .u8 0 :: .int .u8 0 :: .int .u8 0 :: .int .u8 0 :: .int .u8 0 :: .int .u8 0 :: .int .u8 0 :: .int .u8 0 :: .int .u8 0 :: .int .u8 0 :: .int .u8 0 :: .int .u8 0 :: .int .u8 0 :: .int .u8 0 :: .int .u8 0 :: .int .u8 0 :: .int .u8 0 :: .int .u8 0 :: .int .u8 0 :: .int .u8 0 :: .int .u8 0 :: [])) 26))⟩)
            generalize (W0.alloc (.cells (List.toArray (.int .u8 0 :: .int .u8 0 :: .int .u8 0 :: .int .u8 0 :: .int .u8 0 :: .int .u8 0 :: .int .u8 0 :: .int .u8 0 :: .int .u8 0 :: .int .u8 0 :: .int .u8 0 :: .int .u8 0 :: .int .u8 0 :: .int .u8 0 :: .int .u8 0 :: .int .u8 0 :: .int .u8 0 :: .int .u8 0 :: .int .u8 0 :: .int .u8 0 :: .int .u8 0 :: .int .u8 0 :: .int .u8 0 :: .int .u8 0 :: .int .u8 0 :: .int .u8 0 :: .int .u8 0 :: .int .u8 0 :: .int .u8 0 :: .int .u8 0 :: .int .u8 0 :: .int .u8 0 :: [])) 26)).drew = WO26 at *
            refine hK' _ _ (HO26.out.1) ?_
            clear hK' K'
            go_simp
            refine wpAnyH_two (i := 3) (j := 8) (by kernel_rfl) rfl rfl (by kernel_rfl) (by kernel_rfl) (fun K' hK' => ?_) (fun K' hK' => ?_)
            · go_simp
              refine (tree_any k (by omega) (some ⟨lb, 0, none⟩) lb 0 lcap (L.take k) _ ((HW.out.1.take (Nat.le_of_lt hkm) hk0).below (HO26.out.1) (Nat.le_refl _)) (by omega) (HW.out.2.2.below (HO26.out.1))).mono ?_
              rintro e WO27 ⟨rfl, hb27⟩
              rw [bV_dg, ← HS.out.1]
              have HO27 := Lib.hid (show Below W0.heap.size W0 WO27 ∧ _ ∧ _ from ⟨below_after HO26.out.1 hb27 HO26.out.1.size, HO26.out.2.1, blk_below HO26.out.2.2 hb27 (Array.getElem?_eq_some_iff.1 HO26.out.2.2).1⟩)
              clear hb27
              refine hK' _ _ (HO27.out.1) ?_
              clear hK' K'
              go_simp
              refine wpAnyH_two (i := 7) (j := 8) (by kernel_rfl) rfl rfl (by kernel_rfl) (by kernel_rfl) (fun K' hK' => ?_) (fun K' hK' => ?_)
              · go_simp
                refine (tree_any (m - k) (by omega) (some ⟨lb, k * 32, none⟩) lb (k * 32) (lcap - k) (L.drop k) _ (HDR.out.below (HO27.out.1) (Nat.le_refl _)) (by omega) (HW.out.2.2.below (HO27.out.1))).mono ?_
                rintro e WO28 ⟨rfl, hb28⟩
                rw [bV_dg, ← HS.out.2.1]
                have HO28 := Lib.hid (show Below W0.heap.size W0 WO28 ∧ _ ∧ _ from ⟨below_after HO27.out.1 hb28 HO27.out.1.size, HO27.out.2.1, blk_below HO27.out.2.2 hb28 (Array.getElem?_eq_some_iff.1 HO27.out.2.2).1⟩)
                clear hb28
                refine hK' _ _ (HO28.out.1) ?_
                clear hK' K'
                go_simp
                refine wpAnyH_one (i := 8) (by kernel_rfl) rfl (by kernel_rfl) (fun K' hK' => ?_)
                go_simp
                have HO29 := Lib.hid (show Below W0.heap.size W0 _ ∧ W0.heap.size ≤ W0.heap.size ∧ _ ∧ W0.heap.size ≠ WO28.heap.size ∧ W0.heap.size ≤ WO28.heap.size ∧ _ from ⟨HO28.out.1.alloc HO28.out.1.size (.cells (List.toArray (.int .u8 0 :: .int .u8 0 :: .int .u8 0 :: .int .u8 0 :: .int .u8 0 :: .int .u8 0 :: .int .u8 0 :: .int .u8 0 :: .int .u8 0 :: .int .u8 0 :: .int .u8 0 :: .int .u8 0 :: .int .u8 0 :: .int .u8 0 :: .int .u8 0 :: .int .u8 0 :: .int .u8 0 :: .int .u8 0 :: .int .u8 0 :: .int .u8 0 :: .int .u8 0 :: .int .u8 0 :: .int .u8 0 :: .int .u8 0 :: .int .u8 0 :: .int .u8 0 :: .int .u8 0 :: .int .u8 0 :: .int .u8 0 :: .int .u8 0 :: .int .u8 0 :: .int .u8 0 :: [])) 26), HO28.out.2.1, blk_alloc HO28.out.2.2 (.cells (List.toArray (.int .u8 0 :: .int .u8 0 :: .int .u8 0 :: .int .u8 0 :: .int .u8 0 :: .int .u8 0 :: .int .u8 0 :: .int .u8 0 :: .int .u8 0 :: .int .u8 0 :: .int .u8 0 :: .int .u8 0 :: .int .u8 0 :: .int .u8 0 :: .int .u8 0 :: .int .u8 0 :: .int .u8 0 :: .int .u8 0 :: .int .u8 0 :: .int .u8 0 :: .int .u8 0 :: .int .u8 0 :: .int .u8 0 :: .int .u8 0 :: .int .u8 0 :: .int .u8 0 :: .int .u8 0 :: .int .u8 0 :: .int .u8 0 :: .int .u8 0 :: .int .u8 0 :: .int .u8 0 :: [])) 26), other_block HO28.out.2.2 (Nat.le_refl _), HO28.out.1.size, blk_new WO28 (.cells (List.toArray (.int .u8 0 :: .int .u8 0 :: .int .u8 0 :: .int .u8 0 :: .int .u8 0 :: .int .u8 0 :: .int .u8 0 :: .int .u8 0 :: .int .u8 0 :: .int .u8 0 :: .int .u8 0 :: .int .u8 0 :: .int .u8 0 :: .int .u8 0 :: .int .u8 0 :: .int .u8 0 :: .int .u8 0 :: .int .u8 0 :: .int .u8 0 :: .int .u8 0 :: .int .u8 0 :: .int .u8 0 :: .int .u8 0 :: .int .u8 0 :: .int .u8 0 :: .int .u8 0 :: .int .u8 0 :: .int .u8 0 :: .int .u8 0 :: .int .u8 0 :: .int .u8 0 :: .int .u8 0 :: [])) 26)⟩)
                generalize WO28.alloc (.cells (List.toArray (.int .u8 0 :: .int .u8 0 :: .int .u8 0 :: .int .u8 0 :: .int .u8 0 :: .int .u8 0 :: .int .u8 0 :: .int .u8 0 :: .int .u8 0 :: .int .u8 0 :: .int .u8 0 :: .int .u8 0 :: .int .u8 0 :: .int .u8 0 :: .int .u8 0 :: .int .u8 0 :: .int .u8 0 :: .int .u8 0 :: .int .u8 0 :: .int .u8 0 :: .int .u8 0 :: .int .u8 0 :: .int .u8 0 :: .int .u8 0 :: .int .u8 0 :: .int .u8 0 :: .int .u8 0 :: .int .u8 0 :: .int .u8 0 :: .int .u8 0 :: .int .u8 0 :: .int .u8 0 :: [])) 26) = WO29 at *
                refine hK' _ _ (HO29.out.1) ?_
                clear hK' K'
                go_simp
                refine wpAnyH_one (i := 10) (by kernel_rfl) rfl (by kernel_rfl) (fun K' hK' => ?_)
                refine wp_store_row 26 (.tmp 5) (.tmp 38) (by kernel_rfl) WO28.heap.size (bV (dgL sA)) (by kernel_rfl) (by kernel_rfl) 26 _ HO29.out.2.2.2.2.2 (by rw [bV_size, dgL_len]; kernel_rfl) (by rw [bV_size, dgL_len]; rfl) (bV_one _) ?_
                have hf5 := setRow_heap _ WO28.heap.size _ (bV (dgL sA)) 26 (0, 0) HO29.out.2.2.2.2.2
                have hf6 := (setRow_other WO29 WO28.heap.size W0.heap.size (bV (dgL sA)) HO29.out.2.2.2.1).trans HO29.out.2.2.1
                have hbw := below_setRow HO29.out.1 HO29.out.2.2.2.2.1 (bV (dgL sA))
                generalize WO29.setRow WO28.heap.size (bV (dgL sA)) = WZ at *
                refine hK' _ _ (hbw) ?_
                clear hK' K'
                go_simp
                refine wpAnyH_one (i := 11) (by kernel_rfl) rfl (by kernel_rfl) (fun K' hK' => ?_)
                refine wp_store_row 26 (.tmp 6) (.tmp 42) (by kernel_rfl) W0.heap.size (bV (dgL sB)) (by kernel_rfl) (by kernel_rfl) 26 _ hf6 (by rw [bV_size, dgL_len]; kernel_rfl) (by rw [bV_size, dgL_len]; rfl) (bV_one _) ?_
                have hg6 := setRow_heap _ W0.heap.size _ (bV (dgL sB)) 26 (0, 0) hf6
                have hg5 := (setRow_other WZ W0.heap.size WO28.heap.size (bV (dgL sB)) (Ne.symm HO29.out.2.2.2.1)).trans hf5
                have hbw2 := below_setRow hbw HO29.out.2.1 (bV (dgL sB))
                have HM := Lib.hid (show TwoD (dgL sA) (dgL sB) W0 (.pointer (some ⟨WO28.heap.size, 0, none⟩)) (.pointer (some ⟨W0.heap.size, 0, none⟩)) (WZ.setRow W0.heap.size (bV (dgL sB))) from ⟨_, _, rfl, rfl, hg5, hg6, hbw2, HO29.out.2.2.2.2.1, HO29.out.2.1, (Ne.symm HO29.out.2.2.2.1)⟩)
                generalize WZ.setRow W0.heap.size (bV (dgL sB)) = WY at *
                clear hg6 hg5 hf5 hf6 hbw
                refine hK' _ _ (hbw2) ?_
                clear hK' K'
                go_simp
                refine wpAnyH_done (by kernel_rfl) ?_ _
                refine NoPanic.normal ?_
                go_simp
                go_wp2_with fail
                go_meet
                case rel => exact HM.out
              · go_simp
                have HO30 := Lib.hid (show Below W0.heap.size W0 _ ∧ W0.heap.size ≤ W0.heap.size ∧ _ ∧ W0.heap.size ≠ WO27.heap.size ∧ W0.heap.size ≤ WO27.heap.size ∧ _ from ⟨HO27.out.1.alloc HO27.out.1.size (.cells (List.toArray (.int .u8 0 :: .int .u8 0 :: .int .u8 0 :: .int .u8 0 :: .int .u8 0 :: .int .u8 0 :: .int .u8 0 :: .int .u8 0 :: .int .u8 0 :: .int .u8 0 :: .int .u8 0 :: .int .u8 0 :: .int .u8 0 :: .int .u8 0 :: .int .u8 0 :: .int .u8 0 :: .int .u8 0 :: .int .u8 0 :: .int .u8 0 :: .int .u8 0 :: .int .u8 0 :: .int .u8 0 :: .int .u8 0 :: .int .u8 0 :: .int .u8 0 :: .int .u8 0 :: .int .u8 0 :: .int .u8 0 :: .int .u8 0 :: .int .u8 0 :: .int .u8 0 :: .int .u8 0 :: [])) 26), HO27.out.2.1, blk_alloc HO27.out.2.2 (.cells (List.toArray (.int .u8 0 :: .int .u8 0 :: .int .u8 0 :: .int .u8 0 :: .int .u8 0 :: .int .u8 0 :: .int .u8 0 :: .int .u8 0 :: .int .u8 0 :: .int .u8 0 :: .int .u8 0 :: .int .u8 0 :: .int .u8 0 :: .int .u8 0 :: .int .u8 0 :: .int .u8 0 :: .int .u8 0 :: .int .u8 0 :: .int .u8 0 :: .int .u8 0 :: .int .u8 0 :: .int .u8 0 :: .int .u8 0 :: .int .u8 0 :: .int .u8 0 :: .int .u8 0 :: .int .u8 0 :: .int .u8 0 :: .int .u8 0 :: .int .u8 0 :: .int .u8 0 :: .int .u8 0 :: [])) 26), other_block HO27.out.2.2 (Nat.le_refl _), HO27.out.1.size, blk_new WO27 (.cells (List.toArray (.int .u8 0 :: .int .u8 0 :: .int .u8 0 :: .int .u8 0 :: .int .u8 0 :: .int .u8 0 :: .int .u8 0 :: .int .u8 0 :: .int .u8 0 :: .int .u8 0 :: .int .u8 0 :: .int .u8 0 :: .int .u8 0 :: .int .u8 0 :: .int .u8 0 :: .int .u8 0 :: .int .u8 0 :: .int .u8 0 :: .int .u8 0 :: .int .u8 0 :: .int .u8 0 :: .int .u8 0 :: .int .u8 0 :: .int .u8 0 :: .int .u8 0 :: .int .u8 0 :: .int .u8 0 :: .int .u8 0 :: .int .u8 0 :: .int .u8 0 :: .int .u8 0 :: .int .u8 0 :: [])) 26)⟩)
                generalize WO27.alloc (.cells (List.toArray (.int .u8 0 :: .int .u8 0 :: .int .u8 0 :: .int .u8 0 :: .int .u8 0 :: .int .u8 0 :: .int .u8 0 :: .int .u8 0 :: .int .u8 0 :: .int .u8 0 :: .int .u8 0 :: .int .u8 0 :: .int .u8 0 :: .int .u8 0 :: .int .u8 0 :: .int .u8 0 :: .int .u8 0 :: .int .u8 0 :: .int .u8 0 :: .int .u8 0 :: .int .u8 0 :: .int .u8 0 :: .int .u8 0 :: .int .u8 0 :: .int .u8 0 :: .int .u8 0 :: .int .u8 0 :: .int .u8 0 :: .int .u8 0 :: .int .u8 0 :: .int .u8 0 :: .int .u8 0 :: [])) 26) = WO30 at *
                refine hK' _ _ (HO30.out.1) ?_
                clear hK' K'
                go_simp
                refine wpAnyH_one (i := 7) (by kernel_rfl) rfl (by kernel_rfl) (fun K' hK' => ?_)
                go_simp
                refine (tree_any (m - k) (by omega) (some ⟨lb, k * 32, none⟩) lb (k * 32) (lcap - k) (L.drop k) _ (HDR.out.below (HO30.out.1) (Nat.le_refl _)) (by omega) (HW.out.2.2.below (HO30.out.1))).mono ?_
                rintro e WO31 ⟨rfl, hb31⟩
                rw [bV_dg, ← HS.out.2.1]
                have HO31 := Lib.hid (show Below W0.heap.size W0 WO31 ∧ _ ∧ _ ∧ _ ∧ _ ∧ _ from ⟨below_after HO30.out.1 hb31 HO30.out.1.size, HO30.out.2.1, blk_below HO30.out.2.2.1 hb31 (Array.getElem?_eq_some_iff.1 HO30.out.2.2.1).1, HO30.out.2.2.2.1, HO30.out.2.2.2.2.1, blk_below HO30.out.2.2.2.2.2 hb31 (Array.getElem?_eq_some_iff.1 HO30.out.2.2.2.2.2).1⟩)
                clear hb31
                refine hK' _ _ (HO31.out.1) ?_
                clear hK' K'
                go_simp
                refine wpAnyH_one (i := 10) (by kernel_rfl) rfl (by kernel_rfl) (fun K' hK' => ?_)
                refine wp_store_row 26 (.tmp 5) (.tmp 38) (by kernel_rfl) WO27.heap.size (bV (dgL sA)) (by kernel_rfl) (by kernel_rfl) 26 _ HO31.out.2.2.2.2.2 (by rw [bV_size, dgL_len]; kernel_rfl) (by rw [bV_size, dgL_len]; rfl) (bV_one _) ?_
                have hf5 := setRow_heap _ WO27.heap.size _ (bV (dgL sA)) 26 (0, 0) HO31.out.2.2.2.2.2
                have hf6 := (setRow_other WO31 WO27.heap.size W0.heap.size (bV (dgL sA)) HO31.out.2.2.2.1).trans HO31.out.2.2.1
                have hbw := below_setRow HO31.out.1 HO31.out.2.2.2.2.1 (bV (dgL sA))
                generalize WO31.setRow WO27.heap.size (bV (dgL sA)) = WZ at *
                refine hK' _ _ (hbw) ?_
                clear hK' K'
                go_simp
                refine wpAnyH_one (i := 11) (by kernel_rfl) rfl (by kernel_rfl) (fun K' hK' => ?_)
                refine wp_store_row 26 (.tmp 6) (.tmp 42) (by kernel_rfl) W0.heap.size (bV (dgL sB)) (by kernel_rfl) (by kernel_rfl) 26 _ hf6 (by rw [bV_size, dgL_len]; kernel_rfl) (by rw [bV_size, dgL_len]; rfl) (bV_one _) ?_
                have hg6 := setRow_heap _ W0.heap.size _ (bV (dgL sB)) 26 (0, 0) hf6
                have hg5 := (setRow_other WZ W0.heap.size WO27.heap.size (bV (dgL sB)) (Ne.symm HO31.out.2.2.2.1)).trans hf5
                have hbw2 := below_setRow hbw HO31.out.2.1 (bV (dgL sB))
                have HM := Lib.hid (show TwoD (dgL sA) (dgL sB) W0 (.pointer (some ⟨WO27.heap.size, 0, none⟩)) (.pointer (some ⟨W0.heap.size, 0, none⟩)) (WZ.setRow W0.heap.size (bV (dgL sB))) from ⟨_, _, rfl, rfl, hg5, hg6, hbw2, HO31.out.2.2.2.2.1, HO31.out.2.1, (Ne.symm HO31.out.2.2.2.1)⟩)
                generalize WZ.setRow W0.heap.size (bV (dgL sB)) = WY at *
                clear hg6 hg5 hf5 hf6 hbw
                refine hK' _ _ (hbw2) ?_
                clear hK' K'
                go_simp
                refine wpAnyH_done (by kernel_rfl) ?_ _
                refine NoPanic.normal ?_
                go_simp
                go_wp2_with fail
                go_meet
                case rel => exact HM.out
            · go_simp
              have HO32 := Lib.hid (show Below W0.heap.size W0 _ ∧ W0.heap.size ≤ W0.heap.size ∧ _ ∧ W0.heap.size ≠ WO26.heap.size ∧ W0.heap.size ≤ WO26.heap.size ∧ _ from ⟨HO26.out.1.alloc HO26.out.1.size (.cells (List.toArray (.int .u8 0 :: .int .u8 0 :: .int .u8 0 :: .int .u8 0 :: .int .u8 0 :: .int .u8 0 :: .int .u8 0 :: .int .u8 0 :: .int .u8 0 :: .int .u8 0 :: .int .u8 0 :: .int .u8 0 :: .int .u8 0 :: .int .u8 0 :: .int .u8 0 :: .int .u8 0 :: .int .u8 0 :: .int .u8 0 :: .int .u8 0 :: .int .u8 0 :: .int .u8 0 :: .int .u8 0 :: .int .u8 0 :: .int .u8 0 :: .int .u8 0 :: .int .u8 0 :: .int .u8 0 :: .int .u8 0 :: .int .u8 0 :: .int .u8 0 :: .int .u8 0 :: .int .u8 0 :: [])) 26), HO26.out.2.1, blk_alloc HO26.out.2.2 (.cells (List.toArray (.int .u8 0 :: .int .u8 0 :: .int .u8 0 :: .int .u8 0 :: .int .u8 0 :: .int .u8 0 :: .int .u8 0 :: .int .u8 0 :: .int .u8 0 :: .int .u8 0 :: .int .u8 0 :: .int .u8 0 :: .int .u8 0 :: .int .u8 0 :: .int .u8 0 :: .int .u8 0 :: .int .u8 0 :: .int .u8 0 :: .int .u8 0 :: .int .u8 0 :: .int .u8 0 :: .int .u8 0 :: .int .u8 0 :: .int .u8 0 :: .int .u8 0 :: .int .u8 0 :: .int .u8 0 :: .int .u8 0 :: .int .u8 0 :: .int .u8 0 :: .int .u8 0 :: .int .u8 0 :: [])) 26), other_block HO26.out.2.2 (Nat.le_refl _), HO26.out.1.size, blk_new WO26 (.cells (List.toArray (.int .u8 0 :: .int .u8 0 :: .int .u8 0 :: .int .u8 0 :: .int .u8 0 :: .int .u8 0 :: .int .u8 0 :: .int .u8 0 :: .int .u8 0 :: .int .u8 0 :: .int .u8 0 :: .int .u8 0 :: .int .u8 0 :: .int .u8 0 :: .int .u8 0 :: .int .u8 0 :: .int .u8 0 :: .int .u8 0 :: .int .u8 0 :: .int .u8 0 :: .int .u8 0 :: .int .u8 0 :: .int .u8 0 :: .int .u8 0 :: .int .u8 0 :: .int .u8 0 :: .int .u8 0 :: .int .u8 0 :: .int .u8 0 :: .int .u8 0 :: .int .u8 0 :: .int .u8 0 :: [])) 26)⟩)
              generalize WO26.alloc (.cells (List.toArray (.int .u8 0 :: .int .u8 0 :: .int .u8 0 :: .int .u8 0 :: .int .u8 0 :: .int .u8 0 :: .int .u8 0 :: .int .u8 0 :: .int .u8 0 :: .int .u8 0 :: .int .u8 0 :: .int .u8 0 :: .int .u8 0 :: .int .u8 0 :: .int .u8 0 :: .int .u8 0 :: .int .u8 0 :: .int .u8 0 :: .int .u8 0 :: .int .u8 0 :: .int .u8 0 :: .int .u8 0 :: .int .u8 0 :: .int .u8 0 :: .int .u8 0 :: .int .u8 0 :: .int .u8 0 :: .int .u8 0 :: .int .u8 0 :: .int .u8 0 :: .int .u8 0 :: .int .u8 0 :: [])) 26) = WO32 at *
              refine hK' _ _ (HO32.out.1) ?_
              clear hK' K'
              go_simp
              refine wpAnyH_one (i := 3) (by kernel_rfl) rfl (by kernel_rfl) (fun K' hK' => ?_)
              go_simp
              refine (tree_any k (by omega) (some ⟨lb, 0, none⟩) lb 0 lcap (L.take k) _ ((HW.out.1.take (Nat.le_of_lt hkm) hk0).below (HO32.out.1) (Nat.le_refl _)) (by omega) (HW.out.2.2.below (HO32.out.1))).mono ?_
              rintro e WO33 ⟨rfl, hb33⟩
              rw [bV_dg, ← HS.out.1]
              have HO33 := Lib.hid (show Below W0.heap.size W0 WO33 ∧ _ ∧ _ ∧ _ ∧ _ ∧ _ from ⟨below_after HO32.out.1 hb33 HO32.out.1.size, HO32.out.2.1, blk_below HO32.out.2.2.1 hb33 (Array.getElem?_eq_some_iff.1 HO32.out.2.2.1).1, HO32.out.2.2.2.1, HO32.out.2.2.2.2.1, blk_below HO32.out.2.2.2.2.2 hb33 (Array.getElem?_eq_some_iff.1 HO32.out.2.2.2.2.2).1⟩)
              clear hb33
              refine hK' _ _ (HO33.out.1) ?_
              clear hK' K'
              go_simp
              refine wpAnyH_one (i := 7) (by kernel_rfl) rfl (by kernel_rfl) (fun K' hK' => ?_)
              go_simp
              refine (tree_any (m - k) (by omega) (some ⟨lb, k * 32, none⟩) lb (k * 32) (lcap - k) (L.drop k) _ (HDR.out.below (HO33.out.1) (Nat.le_refl _)) (by omega) (HW.out.2.2.below (HO33.out.1))).mono ?_
              rintro e WO34 ⟨rfl, hb34⟩
              rw [bV_dg, ← HS.out.2.1]
              have HO34 := Lib.hid (show Below W0.heap.size W0 WO34 ∧ _ ∧ _ ∧ _ ∧ _ ∧ _ from ⟨below_after HO33.out.1 hb34 HO33.out.1.size, HO33.out.2.1, blk_below HO33.out.2.2.1 hb34 (Array.getElem?_eq_some_iff.1 HO33.out.2.2.1).1, HO33.out.2.2.2.1, HO33.out.2.2.2.2.1, blk_below HO33.out.2.2.2.2.2 hb34 (Array.getElem?_eq_some_iff.1 HO33.out.2.2.2.2.2).1⟩)
              clear hb34
              refine hK' _ _ (HO34.out.1) ?_
              clear hK' K'
              go_simp
              refine wpAnyH_one (i := 10) (by kernel_rfl) rfl (by kernel_rfl) (fun K' hK' => ?_)
              refine wp_store_row 26 (.tmp 5) (.tmp 38) (by kernel_rfl) WO26.heap.size (bV (dgL sA)) (by kernel_rfl) (by kernel_rfl) 26 _ HO34.out.2.2.2.2.2 (by rw [bV_size, dgL_len]; kernel_rfl) (by rw [bV_size, dgL_len]; rfl) (bV_one _) ?_
              have hf5 := setRow_heap _ WO26.heap.size _ (bV (dgL sA)) 26 (0, 0) HO34.out.2.2.2.2.2
              have hf6 := (setRow_other WO34 WO26.heap.size W0.heap.size (bV (dgL sA)) HO34.out.2.2.2.1).trans HO34.out.2.2.1
              have hbw := below_setRow HO34.out.1 HO34.out.2.2.2.2.1 (bV (dgL sA))
              generalize WO34.setRow WO26.heap.size (bV (dgL sA)) = WZ at *
              refine hK' _ _ (hbw) ?_
              clear hK' K'
              go_simp
              refine wpAnyH_one (i := 11) (by kernel_rfl) rfl (by kernel_rfl) (fun K' hK' => ?_)
              refine wp_store_row 26 (.tmp 6) (.tmp 42) (by kernel_rfl) W0.heap.size (bV (dgL sB)) (by kernel_rfl) (by kernel_rfl) 26 _ hf6 (by rw [bV_size, dgL_len]; kernel_rfl) (by rw [bV_size, dgL_len]; rfl) (bV_one _) ?_
              have hg6 := setRow_heap _ W0.heap.size _ (bV (dgL sB)) 26 (0, 0) hf6
              have hg5 := (setRow_other WZ W0.heap.size WO26.heap.size (bV (dgL sB)) (Ne.symm HO34.out.2.2.2.1)).trans hf5
              have hbw2 := below_setRow hbw HO34.out.2.1 (bV (dgL sB))
              have HM := Lib.hid (show TwoD (dgL sA) (dgL sB) W0 (.pointer (some ⟨WO26.heap.size, 0, none⟩)) (.pointer (some ⟨W0.heap.size, 0, none⟩)) (WZ.setRow W0.heap.size (bV (dgL sB))) from ⟨_, _, rfl, rfl, hg5, hg6, hbw2, HO34.out.2.2.2.2.1, HO34.out.2.1, (Ne.symm HO34.out.2.2.2.1)⟩)
              generalize WZ.setRow W0.heap.size (bV (dgL sB)) = WY at *
              clear hg6 hg5 hf5 hf6 hbw
              refine hK' _ _ (hbw2) ?_
              clear hK' K'
              go_simp
              refine wpAnyH_done (by kernel_rfl) ?_ _
              refine NoPanic.normal ?_
              go_simp
              go_wp2_with fail
              go_meet
              case rel => exact HM.out
        case rest =>
          clear ke
          obtain ⟨b5, b6, rfl, rfl, h5, h6, hbx, hl5, hl6, _⟩ := hcut
          have HC := Lib.hid (show _ ∧ _ ∧ Below w.heap.size w wc ∧ DigR wc _ _ _ _ _ ∧ Keys wc from ⟨h5, h6, HW.out.2.1.trans (hbx.mono HW.out.2.1.size), HW.out.1.below hbx (Nat.le_refl _), HW.out.2.2.below hbx⟩)
          clear h5 h6 hbx
          go_upto_region 13 with fail
          refine wp_region_from 0 1 (fun w' => Below wc.heap.size wc w') (by kernel_rfl) (by kernel_rfl) (by decide) (by kernel_rfl) ((Below.refl _ _).drew) ?_
          simp only [List.drop_zero, List.take_succ_cons, List.take_zero]
          refine wpHeld_cons (.slice (some ⟨lb, 0, none⟩) m lcap) (by kernel_rfl) ?_ ?_
          · rintro w' -
            try go_simp
          refine wpHeld_nil ?_
          refine wpAnyH_from (fuel := 8) 3 1 (fun _ _ _ _ _ h => h) (by kernel_rfl) (by decide) (by kernel_rfl) ((Below.refl _ _).drew) ?_
          simp only [List.drop_succ_cons, List.drop_zero, List.take_succ_cons, List.take_zero]
          refine wpHeld_cons (.slice (some ⟨b5, 0, none⟩) 32 32) (by kernel_rfl) ?_ ?_
          · rintro w' -
            try go_simp
          refine wpHeld_nil ?_
          refine wpAnyH_from (fuel := 7) 5 1 (fun _ _ _ _ _ h => h) (by kernel_rfl) (by decide) (by kernel_rfl) ((Below.refl _ _).drew) ?_
          simp only [List.drop_succ_cons, List.drop_zero, List.take_succ_cons, List.take_zero]
          refine wpHeld_cons (.slice (some ⟨b6, 0, none⟩) 32 32) (by kernel_rfl) ?_ ?_
          · rintro w' -
            try go_simp
          refine wpHeld_nil ?_
          go_simp
          refine wpAnyH_two (i := 1) (j := 2) (by kernel_rfl) rfl rfl (by kernel_rfl) (by kernel_rfl) (fun K' hK' => ?_) (fun K' hK' => ?_)
          · go_simp
            refine (tree_any m (by omega) (some ⟨lb, 0, none⟩) lb 0 lcap L _ (HC.out.2.2.2.1.below (((Below.refl _ _).drew)) (Nat.le_refl _)) hlc (HC.out.2.2.2.2.below (((Below.refl _ _).drew)))).mono ?_
            rintro e W2 ⟨rfl, hb2⟩
            rw [bV_dg, HT.out]
            have HX := Lib.hid (show Below wc.heap.size wc W2 from below_after (Below.refl _ _).drew hb2 (Nat.le_refl _))
            clear hb2
            refine hK' _ _ (HX.out) ?_
            clear hK' K'
            go_simp
            refine wpAnyH_one (i := 2) (by kernel_rfl) rfl (by kernel_rfl) (fun K' hK' => ?_)
            go_simp
            have hby := (Byts.empty W2).mono (B' := wc.heap.size) HX.out.size
            have hbe := HX.out.alloc HX.out.size (.cells #[] 5)
            generalize W2.alloc (.cells #[] 5) = W3 at *
            have HZ := Lib.hid (show Below wc.heap.size wc W3 ∧ Byts W3 wc.heap.size _ [] from ⟨hbe, hby⟩)
            clear hby hbe
            refine hK' _ _ (HZ.out.1) ?_
            clear hK' K'
            go_simp
            refine wpAnyH_one (i := 4) (by kernel_rfl) rfl (by kernel_rfl) (fun K' hK' => ?_)
            refine wp_append_brow (.tmp 45) (.tmp 46) rfl wc.heap.size _ [] (by kernel_rfl) HZ.out.2 _ (b5) 0 32 32 (dgL sA) (by kernel_rfl) (RowB.of_bV (dgL_len _) (blk_below HC.out.1 HZ.out.1 (Array.getElem?_eq_some_iff.1 HC.out.1).1)) (fun h => by cases h) (by decide) HZ.out.1.size ?_
            intro v5 W5 hO5 hb5 _
            have HX5 := Lib.hid (show Below wc.heap.size wc W5 ∧ Byts W5 wc.heap.size v5 (dgL sA) from ⟨below_trans' HZ.out.1 hb5, hO5⟩)
            clear hO5 hb5
            refine hK' _ _ (HX5.out.1) ?_
            clear hK' K'
            go_simp
            refine wpAnyH_one (i := 6) (by kernel_rfl) rfl (by kernel_rfl) (fun K' hK' => ?_)
            refine wp_append_brow (.tmp 47) (.tmp 48) (by kernel_rfl) wc.heap.size v5 (dgL sA) (by kernel_rfl) HX5.out.2 _ (b6) 0 32 32 (dgL sB) (by kernel_rfl) (RowB.of_bV (dgL_len _) (blk_below HC.out.2.1 HX5.out.1 (Array.getElem?_eq_some_iff.1 HC.out.2.1).1)) (fun h => by cases h) (by rw [dgL_len]; decide) HX5.out.1.size ?_
            intro v6 W6 hO6 hb6 _
            have HX6 := Lib.hid (show Below wc.heap.size wc W6 ∧ Byts W6 wc.heap.size v6 ((dgL sA) ++ (dgL sB)) from ⟨below_trans' HX5.out.1 hb6, hO6⟩)
            clear hO6 hb6 HX5
            refine hK' _ _ (HX6.out.1) ?_
            clear hK' K'
            go_simp
            obtain ⟨a6, b6', c6, rfl, hR6, hc6, _⟩ := HX6.out.2.row
            have hl6 : ((dgL sA) ++ (dgL sB)).length = 64 := by rw [List.length_append, dgL_len, dgL_len]
            rw [hl6] at hR6 hc6 ⊢
            refine wpAnyH_one (i := 7) (by kernel_rfl) rfl (by kernel_rfl) (fun K' hK' => ?_)
            go_simp
            refine (tagged_any ⟨#[110, 111, 100, 101]⟩ a6 b6' 0 64 c6 ((dgL sA) ++ (dgL sB)) W6 (HC.out.2.2.2.2.below HX6.out.1) hR6 (fun h => by have h2 := hR6.adr (by decide); rw [h] at h2; cases h2) (by decide) (by decide)).mono ?_
            rintro e W7 ⟨rfl, hb7⟩
            rw [bV_dg, ← HS.out.2.2]
            have HY := Lib.hid (show Below wc.heap.size wc W7 from below_after HX6.out.1 hb7 HX6.out.1.size)
            clear hb7 HX6
            refine hK' _ _ (HY.out) ?_
            clear hK' K'
            go_simp
            refine wpAnyH_from (fuel := 0) 8 2 (fun _ _ _ _ _ h => h) (by kernel_rfl) (by decide) (by kernel_rfl) (HY.out) ?_
            simp only [List.drop_succ_cons, List.drop_zero, List.take_succ_cons, List.take_zero]
            refine wpHeld_cons (.bool true) (by kernel_rfl) ?_ ?_
            · rintro w' -
              try go_simp
              rw [run_eq_D (dgL sR) (dgL sR) (dgL_len _) (dgL_len _), decide_eq_true rfl]
              go_simp
            refine wpHeld_cons (.bool true) (by kernel_rfl) ?_ ?_
            · rintro w' -
              try go_simp
            refine wpHeld_nil ?_
            go_simp
            refine wpAnyH_done (by kernel_rfl) ?_ _
            refine NoPanic.normal ?_
            go_simp
            go_wp2
            go_ret
            exact ⟨rfl, HC.out.2.2.1.trans (HY.out.mono HC.out.2.2.1.size)⟩
          · go_simp
            have hby := (Byts.empty wc).drew
            have hbe := ((Below.refl wc.heap.size wc).alloc (Nat.le_refl _) (.cells #[] 5)).drew
            generalize (wc.alloc (.cells #[] 5)).drew = W3 at *
            have HX := Lib.hid (show Below wc.heap.size wc W3 ∧ Byts W3 wc.heap.size _ [] from ⟨hbe, hby⟩)
            clear hby hbe
            refine hK' _ _ (HX.out.1) ?_
            clear hK' K'
            go_simp
            refine wpAnyH_one (i := 1) (by kernel_rfl) rfl (by kernel_rfl) (fun K' hK' => ?_)
            go_simp
            refine (tree_any m (by omega) (some ⟨lb, 0, none⟩) lb 0 lcap L _ (HC.out.2.2.2.1.below (HX.out.1) (Nat.le_refl _)) hlc (HC.out.2.2.2.2.below (HX.out.1))).mono ?_
            rintro e W2 ⟨rfl, hb2⟩
            rw [bV_dg, HT.out]
            have HZ := Lib.hid (show Below wc.heap.size wc W2 ∧ Byts W2 wc.heap.size _ [] from ⟨below_after HX.out.1 hb2 HX.out.1.size, HX.out.2.below hb2 (Nat.le_refl _)⟩)
            clear hb2
            refine hK' _ _ (HZ.out.1) ?_
            clear hK' K'
            go_simp
            refine wpAnyH_one (i := 4) (by kernel_rfl) rfl (by kernel_rfl) (fun K' hK' => ?_)
            refine wp_append_brow (.tmp 45) (.tmp 46) rfl wc.heap.size _ [] (by kernel_rfl) HZ.out.2 _ (b5) 0 32 32 (dgL sA) (by kernel_rfl) (RowB.of_bV (dgL_len _) (blk_below HC.out.1 HZ.out.1 (Array.getElem?_eq_some_iff.1 HC.out.1).1)) (fun h => by cases h) (by decide) HZ.out.1.size ?_
            intro v5 W5 hO5 hb5 _
            have HX5 := Lib.hid (show Below wc.heap.size wc W5 ∧ Byts W5 wc.heap.size v5 (dgL sA) from ⟨below_trans' HZ.out.1 hb5, hO5⟩)
            clear hO5 hb5
            refine hK' _ _ (HX5.out.1) ?_
            clear hK' K'
            go_simp
            refine wpAnyH_one (i := 6) (by kernel_rfl) rfl (by kernel_rfl) (fun K' hK' => ?_)
            refine wp_append_brow (.tmp 47) (.tmp 48) (by kernel_rfl) wc.heap.size v5 (dgL sA) (by kernel_rfl) HX5.out.2 _ (b6) 0 32 32 (dgL sB) (by kernel_rfl) (RowB.of_bV (dgL_len _) (blk_below HC.out.2.1 HX5.out.1 (Array.getElem?_eq_some_iff.1 HC.out.2.1).1)) (fun h => by cases h) (by rw [dgL_len]; decide) HX5.out.1.size ?_
            intro v6 W6 hO6 hb6 _
            have HX6 := Lib.hid (show Below wc.heap.size wc W6 ∧ Byts W6 wc.heap.size v6 ((dgL sA) ++ (dgL sB)) from ⟨below_trans' HX5.out.1 hb6, hO6⟩)
            clear hO6 hb6 HX5
            refine hK' _ _ (HX6.out.1) ?_
            clear hK' K'
            go_simp
            obtain ⟨a6, b6', c6, rfl, hR6, hc6, _⟩ := HX6.out.2.row
            have hl6 : ((dgL sA) ++ (dgL sB)).length = 64 := by rw [List.length_append, dgL_len, dgL_len]
            rw [hl6] at hR6 hc6 ⊢
            refine wpAnyH_one (i := 7) (by kernel_rfl) rfl (by kernel_rfl) (fun K' hK' => ?_)
            go_simp
            refine (tagged_any ⟨#[110, 111, 100, 101]⟩ a6 b6' 0 64 c6 ((dgL sA) ++ (dgL sB)) W6 (HC.out.2.2.2.2.below HX6.out.1) hR6 (fun h => by have h2 := hR6.adr (by decide); rw [h] at h2; cases h2) (by decide) (by decide)).mono ?_
            rintro e W7 ⟨rfl, hb7⟩
            rw [bV_dg, ← HS.out.2.2]
            have HY := Lib.hid (show Below wc.heap.size wc W7 from below_after HX6.out.1 hb7 HX6.out.1.size)
            clear hb7 HX6
            refine hK' _ _ (HY.out) ?_
            clear hK' K'
            go_simp
            refine wpAnyH_from (fuel := 0) 8 2 (fun _ _ _ _ _ h => h) (by kernel_rfl) (by decide) (by kernel_rfl) (HY.out) ?_
            simp only [List.drop_succ_cons, List.drop_zero, List.take_succ_cons, List.take_zero]
            refine wpHeld_cons (.bool true) (by kernel_rfl) ?_ ?_
            · rintro w' -
              try go_simp
              rw [run_eq_D (dgL sR) (dgL sR) (dgL_len _) (dgL_len _), decide_eq_true rfl]
              go_simp
            refine wpHeld_cons (.bool true) (by kernel_rfl) ?_ ?_
            · rintro w' -
              try go_simp
            refine wpHeld_nil ?_
            go_simp
            refine wpAnyH_done (by kernel_rfl) ?_ _
            refine NoPanic.normal ?_
            go_simp
            go_wp2
            go_ret
            exact ⟨rfl, HC.out.2.2.1.trans (HY.out.mono HC.out.2.2.1.size)⟩
end Go.Proofs.YthbjjfblapfjdaaDoor
