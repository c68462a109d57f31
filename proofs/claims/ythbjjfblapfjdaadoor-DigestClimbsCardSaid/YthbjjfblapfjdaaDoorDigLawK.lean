/- DigestClimbs (layer 2). -/
import Derived.Test.YthbjjfblapfjdaaDoorDigFour
import Derived.Test.YthbjjfblapfjdaaDoorDigLawP
import Derived.Deep.Cut
namespace Go.Proofs.YthbjjfblapfjdaaDoor
open Go.ChangeShapes Go.WideShapes Go.ChangeAt Go.RowKit
theorem wpList_open {P : Program} {ops : Array Oper} {o : Oper} {a : Act} {Q : Exit → Act → World → Prop} {w : World} {rest : List Oper} (hw : Region.wanted o (yielded ops a.tmps) = true)
    (h : ∀ K : Act → World → Prop, (∀ a w, wpList P ops Q rest a w → K a w) → o.wp P a w K Q) : wpList P ops Q (o :: rest) a w :=
  wpList_step fun K hK => by simp only [hw, if_true]; exact h K hK
/-- A digest loaded behind a guard that holds. -/
theorem wpList_load_open {ops : Array Oper} {o : Oper} {a : Act} {Q : Exit → Act → World → Prop} {w : World} {rest : List Oper} (hw : Region.wanted o (yielded ops a.tmps) = true) (x : Operand) (ho : o.op = .load 26 x) (g : Nat) (hx : a.eval x = .pointer (some ⟨g, 0, none⟩)) (L : List Int) (hL : L.length = 32)
    (hg : w.heap[g]? = some (.cells (bV L) 26 (0, 0))) (h : wpList Tryd.prog ops Q rest (a.put o.dst (.agg (bV L))) w) : wpList Tryd.prog ops Q (o :: rest) a w :=
  wpList_open hw fun _ hK => wp_load_row 26 x ho g hx 26 (bV L) (0, 0) _ hg Tryd.underlying26 rfl (by rw [bV_size, hL]; kernel_rfl) (hK _ _ h)
theorem steps_pow : ∀ (t n i : Nat), 0 < n → n ≤ 2 ^ t → stepsN i n ≤ t := by
  intro t
  induction t with
  | zero =>
    intro n i h0 hn
    obtain rfl : n = 1 := by simp at hn; omega
    rw [stepsN_one]
    omega
  | succ t ih =>
    intro n i h0 hn
    by_cases h1 : 1 < n
    · have hl := Nat.log2_self_le (n := n - 1) (by omega)
      have hu : n - 1 < 2 ^ (Nat.log2 (n - 1) + 1) := Nat.lt_log2_self
      have hle : Nat.log2 (n - 1) ≤ t := by
        by_cases hc : Nat.log2 (n - 1) ≤ t
        · exact hc
        · have := Nat.pow_le_pow_right (n := 2) (by decide) (show t + 1 ≤ Nat.log2 (n - 1) by omega)
          omega
      have hk : halfN n ≤ 2 ^ t := Nat.pow_le_pow_right (by decide) hle
      have hk2 : n ≤ 2 * halfN n := by
        unfold halfN
        rw [Nat.pow_succ] at hu
        omega
      have hk0 := halfN_pos n
      have hkn := halfN_lt h1
      by_cases hi : i < halfN n
      · rw [stepsN_low h1 rfl hi]
        have := ih (halfN n) i hk0 hk
        omega
      · rw [stepsN_high h1 rfl (by omega)]
        have := ih (n - halfN n) (i - halfN n) (by omega) (by omega)
        omega
    · obtain rfl : n = 1 := by omega
      rw [stepsN_one]
      omega
theorem steps_five (n i : Nat) (hn : n ≤ 24) (hi : i < n) : stepsN i n ≤ 5 := by
  exact steps_pow 5 n i (by omega) (by omega)
set_option maxRecDepth 100000 in
set_option maxHeartbeats 40000000 in
theorem climbs_walk (a : Option Addr) (b off n cap : Nat) (l : List Int) (w : World) (hK : Keys w) (hR : RowB w a b off n l) (hn : n ≤ 9223372036854775807) :
    Calls Tryd.prog 6 #[.slice a n cap] w fun e w' => e = .returned (.bool true) ∧ Below w.heap.size w w' := by
  have HR := Lib.hid (show _ ∧ _ from ⟨hR, hK⟩)
  clear hR hK
  go_enter Tryd.func6, Tryd.ntmps6
  go_wp2_with (go_at_call 11; refine (sane_any _ HR.out.2).mono ?_; rintro e WS ⟨rfl, hbS⟩)
  go_wp2_with fail
  refine (of_any a b off n cap l _ (HR.out.1.below hbS (Nat.le_refl _)) hn).mono ?_
  rintro e W0 ⟨v, rfl, hO, hb0⟩
  obtain ⟨la, lb, lcap, rfl, hDg, hlnc, hlc, hlm, _⟩ := hO.s
  have hbw := hbS.trans (hb0.mono hbS.size)
  obtain ⟨m, hm⟩ : ∃ m, m = min n 24 := ⟨_, rfl⟩
  rw [← hm] at hDg hlc ⊢
  obtain ⟨L, hL⟩ : ∃ L, L = ofL l m := ⟨_, rfl⟩
  rw [← hL] at hDg hlc ⊢
  have hLl : L.length = m := by rw [hL, ofL_len]
  rw [hLl] at hDg hlc ⊢
  have HW := Lib.hid (show _ ∧ Below w.heap.size w W0 ∧ Keys W0 from ⟨hDg, hbw, HR.out.2.below hbw⟩)
  have hm24 : m ≤ 24 := by omega
  clear hDg hbw hb0 hbS hL hO hm HR
  unfold maxLen at hlm
  have HL := Lib.hid hLl
  clear hLl
  obtain ⟨sT, hsT⟩ : ∃ s, s = treeS L := ⟨_, rfl⟩
  have HT := Lib.hid hsT
  clear hsT
  go_wp2_with fail
  refine (tree_any m (by omega) la lb 0 lcap L W0 HW.out.1 hlc HW.out.2.2).mono ?_
  rintro e W1 ⟨rfl, hb1⟩
  rw [bV_dg, ← HT.out]
  have HW1 := Lib.hid (show DigR W1 la lb 0 m L ∧ Below w.heap.size w W1 ∧ Keys W1 from ⟨HW.out.1.below hb1 (Nat.le_refl _), HW.out.2.1.trans (hb1.mono HW.out.2.1.size), HW.out.2.2.below hb1⟩)
  clear hb1 HW
  go_wp2_with (with_reducible refine held (o := ⟨none, _, _, _, _, _⟩) ?_)
  unfold Held
  refine wpList_store_row rfl 26 (.tmp 4) (.tmp 18) (by kernel_rfl) W1.heap.size (bV (dgL sT)) (by kernel_rfl) (by kernel_rfl) 26 _ (blk_new W1 _) (by rw [bV_size, dgL_len]; kernel_rfl) (by rw [bV_size, dgL_len]; rfl) (bV_one _) ?_
  rw [World.setRow_alloc_new]
  have hba := (Below.refl W1.heap.size W1).alloc (Nat.le_refl _) (.cells (bV (dgL sT)) 26)
  have hw4 := blk_new W1 (.cells (bV (dgL sT)) 26)
  have HE := Lib.hid (show _ ∧ DigR _ la lb 0 m L ∧ Below w.heap.size w _ ∧ Keys _ from ⟨hw4, HW1.out.1.below hba (Nat.le_refl _), HW1.out.2.1.trans (hba.mono HW1.out.2.1.size), HW1.out.2.2.below hba⟩)
  clear hba hw4 HW1
  generalize W1.alloc (.cells (bV (dgL sT)) 26) = W2 at *
  generalize W1.heap.size = b4 at *
  go_simp
  go_wp2_with fail
  go_loopw [21] (fun v wr => ∃ j : Nat, j ≤ m ∧ v = .int .i64 j ∧ Below W2.heap.size W2 wr) (fun v _ => m - (intOf v).toNat)
  case atStart => exact ⟨0, Nat.zero_le _, rfl, Below.refl _ _⟩
  case round =>
    obtain ⟨j, hj, rfl, hB⟩ := hrel
    by_cases hjm : j < m
    · have j1 : (j : Int) < (m : Int) := by omega
      have j2 : ¬ (j : Int) < 0 := by omega
      have u1 : IntKind.i64.wrap ((j : Int) + 1) = ((j + 1 : Nat) : Int) := (wrap_id (by omega)).trans (by omega)
      obtain rfl := HE.out.2.1.adr (by omega)
      obtain ⟨D, hDe⟩ : ∃ D, D = L.getD j [] := ⟨_, rfl⟩
      have hD : D.length = 32 := by rw [hDe]; exact HE.out.2.1.dig j hjm
      have hel := (HE.out.2.1.below hB (Nat.le_refl _)).elem0 hjm hDe
      have HX := Lib.hid (show Below W2.heap.size W2 wr ∧ _ ∧ _ from ⟨hB, hel, hDe⟩)
      clear hB hel hDe
      go_wp2_with (with_reducible refine held (o := ⟨some 25, _, _, _, _, _⟩) ?_)
      unfold Held
      refine wpList_load_mid rfl 26 (.tmp 24) rfl lb (j * 32) (by kernel_rfl) _ _ HX.out.2.1 Tryd.underlying26 rfl (by rw [List.length_map, hD]; kernel_rfl) ?_
      rw [show (D.map (Value.int .u8)).toArray = bV D from rfl]
      go_wp2_with (with_reducible refine held (o := ⟨none, _, _, _, _, _⟩) ?_)
      unfold Held
      refine wpList_store_row rfl 26 (.tmp 6) (.tmp 25) (by kernel_rfl) wr.heap.size (bV D) (by kernel_rfl) (by kernel_rfl) 26 _ (blk_new wr _) (by rw [bV_size, hD]; kernel_rfl) (by rw [bV_size, hD]; rfl) (bV_one _) ?_
      rw [World.setRow_alloc_new]
      have hw6 := blk_new wr (.cells (bV D) 26)
      have hbb := HX.out.1.alloc HX.out.1.size (.cells (bV D) 26)
      generalize wr.alloc (.cells (bV D) 26) = WA at *
      generalize wr.heap.size = b6 at *
      have HA := Lib.hid (show _ ∧ _ ∧ DigR WA _ lb 0 m L ∧ Keys WA from ⟨hw6, hbb, HE.out.2.1.below hbb (Nat.le_refl _), HE.out.2.2.2.below hbb⟩)
      clear hw6 hbb
      go_simp
      go_wp2_with fail
      refine (path_any _ lb 0 m lcap L (j : Int) WA HA.out.2.2.1 (by omega) hlc HA.out.2.2.2).mono ?_
      rintro e WP ⟨hP, hbP⟩
      obtain ⟨j', hjj, hj'm, v, rfl, hO⟩ : ∃ j' : Nat, (j : Int) = j' ∧ j' < m ∧ ∃ v, e = .returned (.tuple #[v, .int .i64 0]) ∧ DgsO WP WA.heap.size v (pathL L j') := by
        rcases hP with h | ⟨h, _⟩
        · exact h
        · omega
      have hjq : j = j' := by omega
      subst hjq
      clear hP hjj hj'm
      obtain ⟨pa, pb, pcap, rfl, hPr, hpnc, hplc, hpm, _⟩ := hO.s
      have hpl := pathL_len m j L HL.out (by omega)
      have hcp := climb_path m j L HL.out hjm
      obtain ⟨P, hPe⟩ : ∃ P, P = pathL L j := ⟨_, rfl⟩
      rw [← hPe] at hPr hplc hpl hcp ⊢
      obtain ⟨pl, hple⟩ : ∃ pl, pl = P.length := ⟨_, rfl⟩
      rw [← hple] at hPr hplc hpl ⊢
      have HP := Lib.hid hple.symm
      have HST := Lib.hid hpl.symm
      have hst := stepsN_lt m j (by omega)
      have hpl24 : pl < 24 := by omega
      have hpl5 : pl ≤ 5 := by
        rw [hpl]
        exact steps_five m j hm24 hjm
      have HCP := Lib.hid (show climbS D j m P = sT from by rw [HT.out, HX.out.2.2]; exact hcp)
      have HB0 := Lib.hid (show WP.heap[b6]? = _ ∧ Below W2.heap.size W2 WP ∧ DigR WP _ lb 0 m L ∧ DigR WP pa pb 0 pl P ∧ Keys WP from ⟨blk_below HA.out.1 hbP (blk_lt HA.out.1), HA.out.2.1.trans (hbP.mono HA.out.2.1.size), HA.out.2.2.1.below hbP (Nat.le_refl _), hPr, HA.out.2.2.2.below hbP⟩)
      clear hpl hcp hPe hple hst hPr hO hbP HA
      go_upto_region 9 with fail
      refine wp_region_lit ?_
      refine wpList_load_row rfl 26 (.tmp 6) rfl b6 (by kernel_rfl) 26 (bV D) (0, 0) _ HB0.out.1 Tryd.underlying26 rfl (by rw [bV_size, hD]; kernel_rfl) ?_
      go_wp2_with fail
      refine (climbE_any D hD (j : Int) (m : Int) pa pb 0 pl pcap P WP HB0.out.2.2.2.1 hplc HB0.out.2.2.2.2).mono ?_
      rintro e WC ⟨hC, hbC⟩
      have hC : e = .returned (.tuple #[.agg (bV (dgL sT)), .int .i64 0]) := by
        rcases hC with ⟨j2, k2, e1, e2, _, _, _, h⟩ | ⟨h, _⟩
        · obtain rfl : j2 = j := by omega
          obtain rfl : k2 = m := by omega
          rw [HCP.out] at h
          exact h
        · exact absurd ⟨j, m, rfl, rfl, hjm, by omega, HST.out⟩ h
      subst hC
      have HC1 := Lib.hid (show WC.heap[b6]? = _ ∧ Below W2.heap.size W2 WC ∧ DigR WC pa pb 0 pl P ∧ DigR WC _ lb 0 m L from ⟨blk_below HB0.out.1 hbC (blk_lt HB0.out.1), HB0.out.2.1.trans (hbC.mono HB0.out.2.1.size), HB0.out.2.2.2.1.below hbC (Nat.le_refl _), HB0.out.2.2.1.below hbC (Nat.le_refl _)⟩)
      clear hbC HB0
      go_wp2_with (with_reducible refine held (o := ⟨none, _, _, _, _, _⟩) ?_)
      unfold Held
      refine wpList_store_row rfl 26 (.tmp 9) (.tmp 39) (by kernel_rfl) WC.heap.size (bV (dgL sT)) (by kernel_rfl) (by kernel_rfl) 26 _ (blk_new WC _) (by rw [bV_size, dgL_len]; kernel_rfl) (by rw [bV_size, dgL_len]; rfl) (bV_one _) ?_
      rw [World.setRow_alloc_new]
      have hbd := (Below.refl WC.heap.size WC).alloc (Nat.le_refl _) (.cells (bV (dgL sT)) 26)
      have hw9 := blk_new WC (.cells (bV (dgL sT)) 26)
      have hbe := HC1.out.2.1.trans (hbd.mono HC1.out.2.1.size)
      have HC := Lib.hid (show _ ∧ _ ∧ DigR _ pa pb 0 pl P ∧ Below W2.heap.size W2 _ ∧ Keys _ from ⟨blk_below HC1.out.1 hbd (blk_lt HC1.out.1), hw9, HC1.out.2.2.1.below hbd (Nat.le_refl _), hbe, HE.out.2.2.2.below hbe⟩)
      clear hbd hw9 hbe HC1
      generalize WC.alloc (.cells (bV (dgL sT)) 26) = WB at *
      generalize WC.heap.size = b9 at *
      go_simp
      go_upto_region 10 with fail
      go_cut [12] from 41 (fun s12 wx => s12 = .int .i64 1 ∧ Below WB.heap.size WB wx)
      case first =>
        refine wp_region_from 0 4 (fun w' => Below WB.heap.size WB w') (by kernel_rfl) (by kernel_rfl) (by decide) (by kernel_rfl) ((Below.refl _ _).drew) ?_
        simp only [List.drop_zero, List.take_succ_cons, List.take_zero]
        refine wpHeld_load (.tmp 6) (by kernel_rfl) (by kernel_rfl) (b6) (0) (by kernel_rfl) (D) hD (fun w' hS => (RowB.of_bV hD (blk_below HC.out.1 hS (blk_lt HC.out.1))).range) ?_
        refine wpHeld_cons (.int .i64 j) (by kernel_rfl) ?_ ?_
        · rintro w' -
          try go_simp
        refine wpHeld_cons (.slice (some ⟨lb, 0, none⟩) m lcap) (by kernel_rfl) ?_ ?_
        · rintro w' -
          try go_simp
        refine wpHeld_cons (.int .i64 m) (by kernel_rfl) ?_ ?_
        · rintro w' -
          try go_simp
        refine wpHeld_nil ?_
        refine wpAnyH_from (fuel := 12) 5 1 (fun _ _ _ _ _ h => h) (by kernel_rfl) (by decide) (by kernel_rfl) ((Below.refl _ _).drew) ?_
        simp only [List.drop_succ_cons, List.drop_zero, List.take_succ_cons, List.take_zero]
        refine wpHeld_cons (.slice pa pl pcap) (by kernel_rfl) ?_ ?_
        · rintro w' -
          try go_simp
        refine wpHeld_nil ?_
        refine wpAnyH_from (fuel := 11) 7 1 (fun _ _ _ _ _ h => h) (by kernel_rfl) (by decide) (by kernel_rfl) ((Below.refl _ _).drew) ?_
        simp only [List.drop_succ_cons, List.drop_zero, List.take_succ_cons, List.take_zero]
        refine wpHeld_load (.tmp 6) (by kernel_rfl) (by kernel_rfl) (b6) (0) (by kernel_rfl) (D) hD (fun w' hS => (RowB.of_bV hD (blk_below HC.out.1 hS (blk_lt HC.out.1))).range) ?_
        refine wpHeld_nil ?_
        go_simp
        have H0 := Lib.hid (show Below WB.heap.size WB WB.drew from (Below.refl _ _).drew)
        refine wpAnyH_three (i := 4) (j := 8) (k := 14) (by kernel_rfl) rfl rfl rfl (by kernel_rfl) (by kernel_rfl) (by kernel_rfl) (fun K' hK' => ?_) (fun K' hK' => ?_) (fun K' hK' => ?_)
        · go_simp
          have HO1 := Lib.hid (show Below WB.heap.size WB _ ∧ _ from ⟨((Below.refl WB.heap.size WB).alloc (Nat.le_refl _) (.cells #[] 26)).drew, ((DgsO.empty WB).below (Below.refl _ _).drew (Nat.le_refl _))⟩)
          generalize (WB.alloc (.cells #[] 26)).drew = WO1 at *
          refine hK' _ _ (HO1.out.1) ?_
          clear hK' K'
          go_simp
          refine wpAnyH_three (i := 6) (j := 8) (k := 14) (by kernel_rfl) rfl rfl rfl (by kernel_rfl) (by kernel_rfl) (by kernel_rfl) (fun K' hK' => ?_) (fun K' hK' => ?_) (fun K' hK' => ?_)
          · refine wp_append_D0 (.tmp 46) (.tmp 47) rfl WB.heap.size (WB.heap.size) (by kernel_rfl) HO1.out.2 pa pb 0 pl pcap P (by kernel_rfl) (HC.out.2.2.1.below (HO1.out.1) (Nat.le_refl _)) hpnc (by omega) HO1.out.1.size ?_
            intro v2 WO2 hO2 hb2 hn2
            have HO2 := Lib.hid (show Below WB.heap.size WB WO2 ∧ _ from ⟨below_after HO1.out.1 hb2 HO1.out.1.size, hO2⟩)
            clear hO2 hb2 hn2
            refine hK' _ _ (HO2.out.1) ?_
            clear hK' K'
            go_simp
            refine wpAnyH_two (i := 8) (j := 14) (by kernel_rfl) rfl rfl (by kernel_rfl) (by kernel_rfl) (fun K' hK' => ?_) (fun K' hK' => ?_)
            · refine wp_build_D (.tmp 49) rfl D hD (by kernel_rfl) ?_
              have HO3 := Lib.hid (show Below WB.heap.size WB _ ∧ _ ∧ WB.heap.size ≤ WO2.heap.size ∧ _ ∧ _ from ⟨HO2.out.1.alloc HO2.out.1.size (.cells (bV D) 26), (HO2.out.2).alloc (.cells (bV D) 26), HO2.out.1.size, blk_new WO2 (.cells (bV D) 26), own_ne_new HO2.out.2⟩)
              generalize WO2.alloc (.cells (bV D) 26) = WO3 at *
              refine hK' _ _ (HO3.out.1) ?_
              clear hK' K'
              go_simp
              refine wpAnyH_two (i := 9) (j := 14) (by kernel_rfl) rfl rfl (by kernel_rfl) (by kernel_rfl) (fun K' hK' => ?_) (fun K' hK' => ?_)
              · refine wp_append_D (.tmp 48) (.tmp 50) rfl WB.heap.size v2 P (by kernel_rfl) HO3.out.2.1 (WO2.heap.size) D hD 1 (by kernel_rfl) _ _ HO3.out.2.2.2.1 (by rw [HP.out]; omega) HO3.out.1.size ?_
                intro v4 WO4 hO4 hb4 hn4
                have HO4 := Lib.hid (show Below WB.heap.size WB WO4 ∧ _ ∧ _ from ⟨below_trans' HO3.out.1 hb4, hO4, HO3.out.2.2.1⟩)
                clear hO4 hb4 hn4
                refine hK' _ _ (HO4.out.1) ?_
                clear hK' K'
                go_simp
                refine wpAnyH_two (i := 10) (j := 14) (by kernel_rfl) rfl rfl (by kernel_rfl) (by kernel_rfl) (fun K' hK' => ?_) (fun K' hK' => ?_)
                · go_simp
                  obtain ⟨qa5, qb5, qc5, hv5, hQ5, hqn5, hql5, _, _⟩ := (HO4.out.2.1).s
                  have hpl5 : (P ++ [D]).length = pl + 1 := by rw [List.length_append, HP.out]; rfl
                  rw [hpl5] at hv5 hQ5 hql5
                  subst hv5
                  refine (climbE_any D hD (j : Int) (m : Int) qa5 qb5 0 (pl + 1) qc5 (P ++ [D]) WO4 hQ5 hql5 (HC.out.2.2.2.2.below (HO4.out.1))).mono ?_
                  rintro e WO5 ⟨hC5, hb5⟩
                  have hC5 : e = .returned (.tuple #[.agg (bV zL), .int .i64 1]) := by
                    rcases hC5 with ⟨j', k', e1, e2, _, _, h5, _⟩ | ⟨_, h⟩
                    · obtain rfl : j' = j := by omega
                      obtain rfl : k' = m := by omega
                      have := HST.out
                      omega
                    · exact h
                  subst hC5
                  clear hQ5 hpl5 hqn5 hql5
                  have HO5 := Lib.hid (show Below WB.heap.size WB WO5 ∧ _ ∧ _ from ⟨below_after HO4.out.1 hb5 HO4.out.1.size, (HO4.out.2.1).below hb5 (Nat.le_refl _), HO4.out.2.2⟩)
                  clear hb5
                  refine hK' _ _ (HO5.out.1) ?_
                  clear hK' K'
                  go_simp
                  refine wpAnyH_from (fuel := 3) 11 3 (fun _ _ _ _ _ h => h) (by kernel_rfl) (by decide) (by kernel_rfl) (HO5.out.1) ?_
                  simp only [List.drop_succ_cons, List.drop_zero, List.take_succ_cons, List.take_zero]
                  refine wpHeld_cons (.tuple #[.agg (bV zL), .int .i64 1]) (by kernel_rfl) ?_ ?_
                  · rintro w' -
                    try go_simp
                  refine wpHeld_cons (.agg (bV zL)) (by kernel_rfl) ?_ ?_
                  · rintro w' -
                    try go_simp
                  refine wpHeld_cons (.int .i64 1) (by kernel_rfl) ?_ ?_
                  · rintro w' -
                    try go_simp
                  refine wpHeld_nil ?_
                  go_simp
                  refine wpAnyH_one (i := 14) (by kernel_rfl) rfl (by kernel_rfl) (fun K' hK' => ?_)
                  go_simp
                  have HO6 := Lib.hid (show Below WB.heap.size WB _ ∧ _ ∧ WB.heap.size ≤ WO2.heap.size ∧ WB.heap.size ≤ WO5.heap.size ∧ _ ∧ _ from ⟨HO5.out.1.alloc HO5.out.1.size (.cells (List.toArray (.int .u8 0 :: .int .u8 0 :: .int .u8 0 :: .int .u8 0 :: .int .u8 0 :: .int .u8 0 :: .int .u8 0 :: .int .u8 0 :: .int .u8 0 :: .int .u8 0 :: .int .u8 0 :: .int .u8 0 :: .int .u8 0 :: .int .u8 0 :: .int .u8 0 :: .int .u8 0 :: .int .u8 0 :: .int .u8 0 :: .int .u8 0 :: .int .u8 0 :: .int .u8 0 :: .int .u8 0 :: .int .u8 0 :: .int .u8 0 :: .int .u8 0 :: .int .u8 0 :: .int .u8 0 :: .int .u8 0 :: .int .u8 0 :: .int .u8 0 :: .int .u8 0 :: .int .u8 0 :: [])) 26), (HO5.out.2.1).alloc (.cells (List.toArray (.int .u8 0 :: .int .u8 0 :: .int .u8 0 :: .int .u8 0 :: .int .u8 0 :: .int .u8 0 :: .int .u8 0 :: .int .u8 0 :: .int .u8 0 :: .int .u8 0 :: .int .u8 0 :: .int .u8 0 :: .int .u8 0 :: .int .u8 0 :: .int .u8 0 :: .int .u8 0 :: .int .u8 0 :: .int .u8 0 :: .int .u8 0 :: .int .u8 0 :: .int .u8 0 :: .int .u8 0 :: .int .u8 0 :: .int .u8 0 :: .int .u8 0 :: .int .u8 0 :: .int .u8 0 :: .int .u8 0 :: .int .u8 0 :: .int .u8 0 :: .int .u8 0 :: .int .u8 0 :: [])) 26), HO5.out.2.2, HO5.out.1.size, blk_new WO5 (.cells (List.toArray (.int .u8 0 :: .int .u8 0 :: .int .u8 0 :: .int .u8 0 :: .int .u8 0 :: .int .u8 0 :: .int .u8 0 :: .int .u8 0 :: .int .u8 0 :: .int .u8 0 :: .int .u8 0 :: .int .u8 0 :: .int .u8 0 :: .int .u8 0 :: .int .u8 0 :: .int .u8 0 :: .int .u8 0 :: .int .u8 0 :: .int .u8 0 :: .int .u8 0 :: .int .u8 0 :: .int .u8 0 :: .int .u8 0 :: .int .u8 0 :: .int .u8 0 :: .int .u8 0 :: .int .u8 0 :: .int .u8 0 :: .int .u8 0 :: .int .u8 0 :: .int .u8 0 :: .int .u8 0 :: [])) 26), own_ne_new HO5.out.2.1⟩)
                  generalize WO5.alloc (.cells (List.toArray (.int .u8 0 :: .int .u8 0 :: .int .u8 0 :: .int .u8 0 :: .int .u8 0 :: .int .u8 0 :: .int .u8 0 :: .int .u8 0 :: .int .u8 0 :: .int .u8 0 :: .int .u8 0 :: .int .u8 0 :: .int .u8 0 :: .int .u8 0 :: .int .u8 0 :: .int .u8 0 :: .int .u8 0 :: .int .u8 0 :: .int .u8 0 :: .int .u8 0 :: .int .u8 0 :: .int .u8 0 :: .int .u8 0 :: .int .u8 0 :: .int .u8 0 :: .int .u8 0 :: .int .u8 0 :: .int .u8 0 :: .int .u8 0 :: .int .u8 0 :: .int .u8 0 :: .int .u8 0 :: [])) 26) = WO6 at *
                  refine hK' _ _ (HO6.out.1) ?_
                  clear hK' K'
                  go_simp
                  refine wpAnyH_one (i := 15) (by kernel_rfl) rfl (by kernel_rfl) (fun K' hK' => ?_)
                  refine wp_store_row 26 (.tmp 11) (.tmp 53) (by kernel_rfl) WO5.heap.size (bV zL) (by kernel_rfl) (by kernel_rfl) 26 _ HO6.out.2.2.2.2.1 (by kernel_rfl) (by kernel_rfl) (bV_one _) ?_
                  have q5 := below_setRow HO6.out.1 HO6.out.2.2.2.1 (bV zL)
                  generalize WO6.setRow WO5.heap.size (bV zL) = WZ at *
                  refine hK' _ _ (q5) ?_
                  clear hK' K'
                  go_simp
                  refine wpAnyH_one (i := 16) (by kernel_rfl) rfl (by kernel_rfl) (fun K' hK' => ?_)
                  go_simp
                  refine hK' _ _ (q5) ?_
                  clear hK' K'
                  go_simp
                  refine wpAnyH_done (by kernel_rfl) ?_ _
                  refine NoPanic.normal ?_
                  go_simp
                  go_wp2_with fail
                  go_meet
                  case rel => exact ⟨rfl, q5⟩
                · go_simp
                  have HO7 := Lib.hid (show Below WB.heap.size WB _ ∧ _ ∧ WB.heap.size ≤ WO2.heap.size ∧ WB.heap.size ≤ WO4.heap.size ∧ _ ∧ _ from ⟨HO4.out.1.alloc HO4.out.1.size (.cells (List.toArray (.int .u8 0 :: .int .u8 0 :: .int .u8 0 :: .int .u8 0 :: .int .u8 0 :: .int .u8 0 :: .int .u8 0 :: .int .u8 0 :: .int .u8 0 :: .int .u8 0 :: .int .u8 0 :: .int .u8 0 :: .int .u8 0 :: .int .u8 0 :: .int .u8 0 :: .int .u8 0 :: .int .u8 0 :: .int .u8 0 :: .int .u8 0 :: .int .u8 0 :: .int .u8 0 :: .int .u8 0 :: .int .u8 0 :: .int .u8 0 :: .int .u8 0 :: .int .u8 0 :: .int .u8 0 :: .int .u8 0 :: .int .u8 0 :: .int .u8 0 :: .int .u8 0 :: .int .u8 0 :: [])) 26), (HO4.out.2.1).alloc (.cells (List.toArray (.int .u8 0 :: .int .u8 0 :: .int .u8 0 :: .int .u8 0 :: .int .u8 0 :: .int .u8 0 :: .int .u8 0 :: .int .u8 0 :: .int .u8 0 :: .int .u8 0 :: .int .u8 0 :: .int .u8 0 :: .int .u8 0 :: .int .u8 0 :: .int .u8 0 :: .int .u8 0 :: .int .u8 0 :: .int .u8 0 :: .int .u8 0 :: .int .u8 0 :: .int .u8 0 :: .int .u8 0 :: .int .u8 0 :: .int .u8 0 :: .int .u8 0 :: .int .u8 0 :: .int .u8 0 :: .int .u8 0 :: .int .u8 0 :: .int .u8 0 :: .int .u8 0 :: .int .u8 0 :: [])) 26), HO4.out.2.2, HO4.out.1.size, blk_new WO4 (.cells (List.toArray (.int .u8 0 :: .int .u8 0 :: .int .u8 0 :: .int .u8 0 :: .int .u8 0 :: .int .u8 0 :: .int .u8 0 :: .int .u8 0 :: .int .u8 0 :: .int .u8 0 :: .int .u8 0 :: .int .u8 0 :: .int .u8 0 :: .int .u8 0 :: .int .u8 0 :: .int .u8 0 :: .int .u8 0 :: .int .u8 0 :: .int .u8 0 :: .int .u8 0 :: .int .u8 0 :: .int .u8 0 :: .int .u8 0 :: .int .u8 0 :: .int .u8 0 :: .int .u8 0 :: .int .u8 0 :: .int .u8 0 :: .int .u8 0 :: .int .u8 0 :: .int .u8 0 :: .int .u8 0 :: [])) 26), own_ne_new HO4.out.2.1⟩)
                  generalize WO4.alloc (.cells (List.toArray (.int .u8 0 :: .int .u8 0 :: .int .u8 0 :: .int .u8 0 :: .int .u8 0 :: .int .u8 0 :: .int .u8 0 :: .int .u8 0 :: .int .u8 0 :: .int .u8 0 :: .int .u8 0 :: .int .u8 0 :: .int .u8 0 :: .int .u8 0 :: .int .u8 0 :: .int .u8 0 :: .int .u8 0 :: .int .u8 0 :: .int .u8 0 :: .int .u8 0 :: .int .u8 0 :: .int .u8 0 :: .int .u8 0 :: .int .u8 0 :: .int .u8 0 :: .int .u8 0 :: .int .u8 0 :: .int .u8 0 :: .int .u8 0 :: .int .u8 0 :: .int .u8 0 :: .int .u8 0 :: [])) 26) = WO7 at *
                  refine hK' _ _ (HO7.out.1) ?_
                  clear hK' K'
                  go_simp
                  refine wpAnyH_one (i := 10) (by kernel_rfl) rfl (by kernel_rfl) (fun K' hK' => ?_)
                  go_simp
                  obtain ⟨qa8, qb8, qc8, hv8, hQ8, hqn8, hql8, _, _⟩ := (HO7.out.2.1).s
                  have hpl8 : (P ++ [D]).length = pl + 1 := by rw [List.length_append, HP.out]; rfl
                  rw [hpl8] at hv8 hQ8 hql8
                  subst hv8
                  refine (climbE_any D hD (j : Int) (m : Int) qa8 qb8 0 (pl + 1) qc8 (P ++ [D]) WO7 hQ8 hql8 (HC.out.2.2.2.2.below (HO7.out.1))).mono ?_
                  rintro e WO8 ⟨hC8, hb8⟩
                  have hC8 : e = .returned (.tuple #[.agg (bV zL), .int .i64 1]) := by
                    rcases hC8 with ⟨j', k', e1, e2, _, _, h5, _⟩ | ⟨_, h⟩
                    · obtain rfl : j' = j := by omega
                      obtain rfl : k' = m := by omega
                      have := HST.out
                      omega
                    · exact h
                  subst hC8
                  clear hQ8 hpl8 hqn8 hql8
                  have HO8 := Lib.hid (show Below WB.heap.size WB WO8 ∧ _ ∧ _ ∧ _ ∧ _ ∧ _ from ⟨below_after HO7.out.1 hb8 HO7.out.1.size, (HO7.out.2.1).below hb8 (Nat.le_refl _), HO7.out.2.2.1, HO7.out.2.2.2.1, blk_below HO7.out.2.2.2.2.1 hb8 (blk_lt HO7.out.2.2.2.2.1), HO7.out.2.2.2.2.2⟩)
                  clear hb8
                  refine hK' _ _ (HO8.out.1) ?_
                  clear hK' K'
                  go_simp
                  refine wpAnyH_from (fuel := 2) 11 3 (fun _ _ _ _ _ h => h) (by kernel_rfl) (by decide) (by kernel_rfl) (HO8.out.1) ?_
                  simp only [List.drop_succ_cons, List.drop_zero, List.take_succ_cons, List.take_zero]
                  refine wpHeld_cons (.tuple #[.agg (bV zL), .int .i64 1]) (by kernel_rfl) ?_ ?_
                  · rintro w' -
                    try go_simp
                  refine wpHeld_cons (.agg (bV zL)) (by kernel_rfl) ?_ ?_
                  · rintro w' -
                    try go_simp
                  refine wpHeld_cons (.int .i64 1) (by kernel_rfl) ?_ ?_
                  · rintro w' -
                    try go_simp
                  refine wpHeld_nil ?_
                  go_simp
                  refine wpAnyH_one (i := 15) (by kernel_rfl) rfl (by kernel_rfl) (fun K' hK' => ?_)
                  refine wp_store_row 26 (.tmp 11) (.tmp 53) (by kernel_rfl) WO4.heap.size (bV zL) (by kernel_rfl) (by kernel_rfl) 26 _ HO8.out.2.2.2.2.1 (by kernel_rfl) (by kernel_rfl) (bV_one _) ?_
                  have q5 := below_setRow HO8.out.1 HO8.out.2.2.2.1 (bV zL)
                  generalize WO8.setRow WO4.heap.size (bV zL) = WZ at *
                  refine hK' _ _ (q5) ?_
                  clear hK' K'
                  go_simp
                  refine wpAnyH_one (i := 16) (by kernel_rfl) rfl (by kernel_rfl) (fun K' hK' => ?_)
                  go_simp
                  refine hK' _ _ (q5) ?_
                  clear hK' K'
                  go_simp
                  refine wpAnyH_done (by kernel_rfl) ?_ _
                  refine NoPanic.normal ?_
                  go_simp
                  go_wp2_with fail
                  go_meet
                  case rel => exact ⟨rfl, q5⟩
              · go_simp
                have HO9 := Lib.hid (show Below WB.heap.size WB _ ∧ _ ∧ WB.heap.size ≤ WO2.heap.size ∧ _ ∧ _ ∧ WO2.heap.size ≠ WO3.heap.size ∧ WB.heap.size ≤ WO3.heap.size ∧ _ ∧ _ from ⟨HO3.out.1.alloc HO3.out.1.size (.cells (List.toArray (.int .u8 0 :: .int .u8 0 :: .int .u8 0 :: .int .u8 0 :: .int .u8 0 :: .int .u8 0 :: .int .u8 0 :: .int .u8 0 :: .int .u8 0 :: .int .u8 0 :: .int .u8 0 :: .int .u8 0 :: .int .u8 0 :: .int .u8 0 :: .int .u8 0 :: .int .u8 0 :: .int .u8 0 :: .int .u8 0 :: .int .u8 0 :: .int .u8 0 :: .int .u8 0 :: .int .u8 0 :: .int .u8 0 :: .int .u8 0 :: .int .u8 0 :: .int .u8 0 :: .int .u8 0 :: .int .u8 0 :: .int .u8 0 :: .int .u8 0 :: .int .u8 0 :: .int .u8 0 :: [])) 26), (HO3.out.2.1).alloc (.cells (List.toArray (.int .u8 0 :: .int .u8 0 :: .int .u8 0 :: .int .u8 0 :: .int .u8 0 :: .int .u8 0 :: .int .u8 0 :: .int .u8 0 :: .int .u8 0 :: .int .u8 0 :: .int .u8 0 :: .int .u8 0 :: .int .u8 0 :: .int .u8 0 :: .int .u8 0 :: .int .u8 0 :: .int .u8 0 :: .int .u8 0 :: .int .u8 0 :: .int .u8 0 :: .int .u8 0 :: .int .u8 0 :: .int .u8 0 :: .int .u8 0 :: .int .u8 0 :: .int .u8 0 :: .int .u8 0 :: .int .u8 0 :: .int .u8 0 :: .int .u8 0 :: .int .u8 0 :: .int .u8 0 :: [])) 26), HO3.out.2.2.1, blk_alloc HO3.out.2.2.2.1 (.cells (List.toArray (.int .u8 0 :: .int .u8 0 :: .int .u8 0 :: .int .u8 0 :: .int .u8 0 :: .int .u8 0 :: .int .u8 0 :: .int .u8 0 :: .int .u8 0 :: .int .u8 0 :: .int .u8 0 :: .int .u8 0 :: .int .u8 0 :: .int .u8 0 :: .int .u8 0 :: .int .u8 0 :: .int .u8 0 :: .int .u8 0 :: .int .u8 0 :: .int .u8 0 :: .int .u8 0 :: .int .u8 0 :: .int .u8 0 :: .int .u8 0 :: .int .u8 0 :: .int .u8 0 :: .int .u8 0 :: .int .u8 0 :: .int .u8 0 :: .int .u8 0 :: .int .u8 0 :: .int .u8 0 :: [])) 26), HO3.out.2.2.2.2, other_block HO3.out.2.2.2.1 (Nat.le_refl _), HO3.out.1.size, blk_new WO3 (.cells (List.toArray (.int .u8 0 :: .int .u8 0 :: .int .u8 0 :: .int .u8 0 :: .int .u8 0 :: .int .u8 0 :: .int .u8 0 :: .int .u8 0 :: .int .u8 0 :: .int .u8 0 :: .int .u8 0 :: .int .u8 0 :: .int .u8 0 :: .int .u8 0 :: .int .u8 0 :: .int .u8 0 :: .int .u8 0 :: .int .u8 0 :: .int .u8 0 :: .int .u8 0 :: .int .u8 0 :: .int .u8 0 :: .int .u8 0 :: .int .u8 0 :: .int .u8 0 :: .int .u8 0 :: .int .u8 0 :: .int .u8 0 :: .int .u8 0 :: .int .u8 0 :: .int .u8 0 :: .int .u8 0 :: [])) 26), own_ne_new HO3.out.2.1⟩)
                generalize WO3.alloc (.cells (List.toArray (.int .u8 0 :: .int .u8 0 :: .int .u8 0 :: .int .u8 0 :: .int .u8 0 :: .int .u8 0 :: .int .u8 0 :: .int .u8 0 :: .int .u8 0 :: .int .u8 0 :: .int .u8 0 :: .int .u8 0 :: .int .u8 0 :: .int .u8 0 :: .int .u8 0 :: .int .u8 0 :: .int .u8 0 :: .int .u8 0 :: .int .u8 0 :: .int .u8 0 :: .int .u8 0 :: .int .u8 0 :: .int .u8 0 :: .int .u8 0 :: .int .u8 0 :: .int .u8 0 :: .int .u8 0 :: .int .u8 0 :: .int .u8 0 :: .int .u8 0 :: .int .u8 0 :: .int .u8 0 :: [])) 26) = WO9 at *
                refine hK' _ _ (HO9.out.1) ?_
                clear hK' K'
                go_simp
                refine wpAnyH_one (i := 9) (by kernel_rfl) rfl (by kernel_rfl) (fun K' hK' => ?_)
                refine wp_append_D (.tmp 48) (.tmp 50) rfl WB.heap.size v2 P (by kernel_rfl) HO9.out.2.1 (WO2.heap.size) D hD 1 (by kernel_rfl) _ _ HO9.out.2.2.2.1 (by rw [HP.out]; omega) HO9.out.1.size ?_
                intro v10 WO10 hO10 hb10 hn10
                have HO10 := Lib.hid (show Below WB.heap.size WB WO10 ∧ _ ∧ _ ∧ _ ∧ _ ∧ _ from ⟨below_trans' HO9.out.1 hb10, hO10, HO9.out.2.2.1, HO9.out.2.2.2.2.2.1, HO9.out.2.2.2.2.2.2.1, grown_fact hn10 HO9.out.2.2.2.2.2.2.2.1 HO9.out.2.2.2.2.2.2.2.2⟩)
                clear hO10 hb10 hn10
                refine hK' _ _ (HO10.out.1) ?_
                clear hK' K'
                go_simp
                refine wpAnyH_one (i := 10) (by kernel_rfl) rfl (by kernel_rfl) (fun K' hK' => ?_)
                go_simp
                obtain ⟨qa11, qb11, qc11, hv11, hQ11, hqn11, hql11, _, _⟩ := (HO10.out.2.1).s
                have hpl11 : (P ++ [D]).length = pl + 1 := by rw [List.length_append, HP.out]; rfl
                rw [hpl11] at hv11 hQ11 hql11
                subst hv11
                refine (climbE_any D hD (j : Int) (m : Int) qa11 qb11 0 (pl + 1) qc11 (P ++ [D]) WO10 hQ11 hql11 (HC.out.2.2.2.2.below (HO10.out.1))).mono ?_
                rintro e WO11 ⟨hC11, hb11⟩
                have hC11 : e = .returned (.tuple #[.agg (bV zL), .int .i64 1]) := by
                  rcases hC11 with ⟨j', k', e1, e2, _, _, h5, _⟩ | ⟨_, h⟩
                  · obtain rfl : j' = j := by omega
                    obtain rfl : k' = m := by omega
                    have := HST.out
                    omega
                  · exact h
                subst hC11
                clear hQ11 hpl11 hqn11 hql11
                have HO11 := Lib.hid (show Below WB.heap.size WB WO11 ∧ _ ∧ _ ∧ _ ∧ _ ∧ _ from ⟨below_after HO10.out.1 hb11 HO10.out.1.size, (HO10.out.2.1).below hb11 (Nat.le_refl _), HO10.out.2.2.1, HO10.out.2.2.2.1, HO10.out.2.2.2.2.1, blk_below HO10.out.2.2.2.2.2 hb11 (blk_lt HO10.out.2.2.2.2.2)⟩)
                clear hb11
                refine hK' _ _ (HO11.out.1) ?_
                clear hK' K'
                go_simp
                refine wpAnyH_from (fuel := 2) 11 3 (fun _ _ _ _ _ h => h) (by kernel_rfl) (by decide) (by kernel_rfl) (HO11.out.1) ?_
                simp only [List.drop_succ_cons, List.drop_zero, List.take_succ_cons, List.take_zero]
                refine wpHeld_cons (.tuple #[.agg (bV zL), .int .i64 1]) (by kernel_rfl) ?_ ?_
                · rintro w' -
                  try go_simp
                refine wpHeld_cons (.agg (bV zL)) (by kernel_rfl) ?_ ?_
                · rintro w' -
                  try go_simp
                refine wpHeld_cons (.int .i64 1) (by kernel_rfl) ?_ ?_
                · rintro w' -
                  try go_simp
                refine wpHeld_nil ?_
                go_simp
                refine wpAnyH_one (i := 15) (by kernel_rfl) rfl (by kernel_rfl) (fun K' hK' => ?_)
                refine wp_store_row 26 (.tmp 11) (.tmp 53) (by kernel_rfl) WO3.heap.size (bV zL) (by kernel_rfl) (by kernel_rfl) 26 _ HO11.out.2.2.2.2.2 (by kernel_rfl) (by kernel_rfl) (bV_one _) ?_
                have q5 := below_setRow HO11.out.1 HO11.out.2.2.2.2.1 (bV zL)
                generalize WO11.setRow WO3.heap.size (bV zL) = WZ at *
                refine hK' _ _ (q5) ?_
                clear hK' K'
                go_simp
                refine wpAnyH_one (i := 16) (by kernel_rfl) rfl (by kernel_rfl) (fun K' hK' => ?_)
                go_simp
                refine hK' _ _ (q5) ?_
                clear hK' K'
                go_simp
                refine wpAnyH_done (by kernel_rfl) ?_ _
                refine NoPanic.normal ?_
                go_simp
                go_wp2_with fail
                go_meet
                case rel => exact ⟨rfl, q5⟩
            · go_simp
              have HO12 := Lib.hid (show Below WB.heap.size WB _ ∧ _ ∧ WB.heap.size ≤ WO2.heap.size ∧ _ ∧ _ from ⟨HO2.out.1.alloc HO2.out.1.size (.cells (List.toArray (.int .u8 0 :: .int .u8 0 :: .int .u8 0 :: .int .u8 0 :: .int .u8 0 :: .int .u8 0 :: .int .u8 0 :: .int .u8 0 :: .int .u8 0 :: .int .u8 0 :: .int .u8 0 :: .int .u8 0 :: .int .u8 0 :: .int .u8 0 :: .int .u8 0 :: .int .u8 0 :: .int .u8 0 :: .int .u8 0 :: .int .u8 0 :: .int .u8 0 :: .int .u8 0 :: .int .u8 0 :: .int .u8 0 :: .int .u8 0 :: .int .u8 0 :: .int .u8 0 :: .int .u8 0 :: .int .u8 0 :: .int .u8 0 :: .int .u8 0 :: .int .u8 0 :: .int .u8 0 :: [])) 26), (HO2.out.2).alloc (.cells (List.toArray (.int .u8 0 :: .int .u8 0 :: .int .u8 0 :: .int .u8 0 :: .int .u8 0 :: .int .u8 0 :: .int .u8 0 :: .int .u8 0 :: .int .u8 0 :: .int .u8 0 :: .int .u8 0 :: .int .u8 0 :: .int .u8 0 :: .int .u8 0 :: .int .u8 0 :: .int .u8 0 :: .int .u8 0 :: .int .u8 0 :: .int .u8 0 :: .int .u8 0 :: .int .u8 0 :: .int .u8 0 :: .int .u8 0 :: .int .u8 0 :: .int .u8 0 :: .int .u8 0 :: .int .u8 0 :: .int .u8 0 :: .int .u8 0 :: .int .u8 0 :: .int .u8 0 :: .int .u8 0 :: [])) 26), HO2.out.1.size, blk_new WO2 (.cells (List.toArray (.int .u8 0 :: .int .u8 0 :: .int .u8 0 :: .int .u8 0 :: .int .u8 0 :: .int .u8 0 :: .int .u8 0 :: .int .u8 0 :: .int .u8 0 :: .int .u8 0 :: .int .u8 0 :: .int .u8 0 :: .int .u8 0 :: .int .u8 0 :: .int .u8 0 :: .int .u8 0 :: .int .u8 0 :: .int .u8 0 :: .int .u8 0 :: .int .u8 0 :: .int .u8 0 :: .int .u8 0 :: .int .u8 0 :: .int .u8 0 :: .int .u8 0 :: .int .u8 0 :: .int .u8 0 :: .int .u8 0 :: .int .u8 0 :: .int .u8 0 :: .int .u8 0 :: .int .u8 0 :: [])) 26), own_ne_new HO2.out.2⟩)
              generalize WO2.alloc (.cells (List.toArray (.int .u8 0 :: .int .u8 0 :: .int .u8 0 :: .int .u8 0 :: .int .u8 0 :: .int .u8 0 :: .int .u8 0 :: .int .u8 0 :: .int .u8 0 :: .int .u8 0 :: .int .u8 0 :: .int .u8 0 :: .int .u8 0 :: .int .u8 0 :: .int .u8 0 :: .int .u8 0 :: .int .u8 0 :: .int .u8 0 :: .int .u8 0 :: .int .u8 0 :: .int .u8 0 :: .int .u8 0 :: .int .u8 0 :: .int .u8 0 :: .int .u8 0 :: .int .u8 0 :: .int .u8 0 :: .int .u8 0 :: .int .u8 0 :: .int .u8 0 :: .int .u8 0 :: .int .u8 0 :: [])) 26) = WO12 at *
              refine hK' _ _ (HO12.out.1) ?_
              clear hK' K'
              go_simp
              refine wpAnyH_one (i := 8) (by kernel_rfl) rfl (by kernel_rfl) (fun K' hK' => ?_)
              refine wp_build_D (.tmp 49) rfl D hD (by kernel_rfl) ?_
              have HO13 := Lib.hid (show Below WB.heap.size WB _ ∧ _ ∧ WB.heap.size ≤ WO2.heap.size ∧ _ ∧ _ ∧ WO2.heap.size ≠ WO12.heap.size ∧ WB.heap.size ≤ WO12.heap.size ∧ _ ∧ _ from ⟨HO12.out.1.alloc HO12.out.1.size (.cells (bV D) 26), (HO12.out.2.1).alloc (.cells (bV D) 26), HO12.out.2.2.1, blk_alloc HO12.out.2.2.2.1 (.cells (bV D) 26), HO12.out.2.2.2.2, other_block HO12.out.2.2.2.1 (Nat.le_refl _), HO12.out.1.size, blk_new WO12 (.cells (bV D) 26), own_ne_new HO12.out.2.1⟩)
              generalize WO12.alloc (.cells (bV D) 26) = WO13 at *
              refine hK' _ _ (HO13.out.1) ?_
              clear hK' K'
              go_simp
              refine wpAnyH_one (i := 9) (by kernel_rfl) rfl (by kernel_rfl) (fun K' hK' => ?_)
              refine wp_append_D (.tmp 48) (.tmp 50) rfl WB.heap.size v2 P (by kernel_rfl) HO13.out.2.1 (WO12.heap.size) D hD 1 (by kernel_rfl) _ _ HO13.out.2.2.2.2.2.2.2.1 (by rw [HP.out]; omega) HO13.out.1.size ?_
              intro v14 WO14 hO14 hb14 hn14
              have HO14 := Lib.hid (show Below WB.heap.size WB WO14 ∧ _ ∧ _ ∧ _ ∧ _ ∧ _ from ⟨below_trans' HO13.out.1 hb14, hO14, HO13.out.2.2.1, grown_fact hn14 HO13.out.2.2.2.1 HO13.out.2.2.2.2.1, HO13.out.2.2.2.2.2.1, HO13.out.2.2.2.2.2.2.1⟩)
              clear hO14 hb14 hn14
              refine hK' _ _ (HO14.out.1) ?_
              clear hK' K'
              go_simp
              refine wpAnyH_one (i := 10) (by kernel_rfl) rfl (by kernel_rfl) (fun K' hK' => ?_)
              go_simp
              obtain ⟨qa15, qb15, qc15, hv15, hQ15, hqn15, hql15, _, _⟩ := (HO14.out.2.1).s
              have hpl15 : (P ++ [D]).length = pl + 1 := by rw [List.length_append, HP.out]; rfl
              rw [hpl15] at hv15 hQ15 hql15
              subst hv15
              refine (climbE_any D hD (j : Int) (m : Int) qa15 qb15 0 (pl + 1) qc15 (P ++ [D]) WO14 hQ15 hql15 (HC.out.2.2.2.2.below (HO14.out.1))).mono ?_
              rintro e WO15 ⟨hC15, hb15⟩
              have hC15 : e = .returned (.tuple #[.agg (bV zL), .int .i64 1]) := by
                rcases hC15 with ⟨j', k', e1, e2, _, _, h5, _⟩ | ⟨_, h⟩
                · obtain rfl : j' = j := by omega
                  obtain rfl : k' = m := by omega
                  have := HST.out
                  omega
                · exact h
              subst hC15
              clear hQ15 hpl15 hqn15 hql15
              have HO15 := Lib.hid (show Below WB.heap.size WB WO15 ∧ _ ∧ _ ∧ _ ∧ _ ∧ _ from ⟨below_after HO14.out.1 hb15 HO14.out.1.size, (HO14.out.2.1).below hb15 (Nat.le_refl _), HO14.out.2.2.1, blk_below HO14.out.2.2.2.1 hb15 (blk_lt HO14.out.2.2.2.1), HO14.out.2.2.2.2.1, HO14.out.2.2.2.2.2⟩)
              clear hb15
              refine hK' _ _ (HO15.out.1) ?_
              clear hK' K'
              go_simp
              refine wpAnyH_from (fuel := 2) 11 3 (fun _ _ _ _ _ h => h) (by kernel_rfl) (by decide) (by kernel_rfl) (HO15.out.1) ?_
              simp only [List.drop_succ_cons, List.drop_zero, List.take_succ_cons, List.take_zero]
              refine wpHeld_cons (.tuple #[.agg (bV zL), .int .i64 1]) (by kernel_rfl) ?_ ?_
              · rintro w' -
                try go_simp
              refine wpHeld_cons (.agg (bV zL)) (by kernel_rfl) ?_ ?_
              · rintro w' -
                try go_simp
              refine wpHeld_cons (.int .i64 1) (by kernel_rfl) ?_ ?_
              · rintro w' -
                try go_simp
              refine wpHeld_nil ?_
              go_simp
              refine wpAnyH_one (i := 15) (by kernel_rfl) rfl (by kernel_rfl) (fun K' hK' => ?_)
              refine wp_store_row 26 (.tmp 11) (.tmp 53) (by kernel_rfl) WO2.heap.size (bV zL) (by kernel_rfl) (by kernel_rfl) 26 _ HO15.out.2.2.2.1 (by kernel_rfl) (by kernel_rfl) (bV_one _) ?_
              have q5 := below_setRow HO15.out.1 HO15.out.2.2.1 (bV zL)
              generalize WO15.setRow WO2.heap.size (bV zL) = WZ at *
              refine hK' _ _ (q5) ?_
              clear hK' K'
              go_simp
              refine wpAnyH_one (i := 16) (by kernel_rfl) rfl (by kernel_rfl) (fun K' hK' => ?_)
              go_simp
              refine hK' _ _ (q5) ?_
              clear hK' K'
              go_simp
              refine wpAnyH_done (by kernel_rfl) ?_ _
              refine NoPanic.normal ?_
              go_simp
              go_wp2_with fail
              go_meet
              case rel => exact ⟨rfl, q5⟩
          · refine wp_build_D (.tmp 49) rfl D hD (by kernel_rfl) ?_
            have HO16 := Lib.hid (show Below WB.heap.size WB _ ∧ _ ∧ WB.heap.size ≤ WO1.heap.size ∧ _ ∧ _ from ⟨HO1.out.1.alloc HO1.out.1.size (.cells (bV D) 26), (HO1.out.2).alloc (.cells (bV D) 26), HO1.out.1.size, blk_new WO1 (.cells (bV D) 26), own_ne_new HO1.out.2⟩)
            generalize WO1.alloc (.cells (bV D) 26) = WO16 at *
            refine hK' _ _ (HO16.out.1) ?_
            clear hK' K'
            go_simp
            refine wpAnyH_two (i := 6) (j := 14) (by kernel_rfl) rfl rfl (by kernel_rfl) (by kernel_rfl) (fun K' hK' => ?_) (fun K' hK' => ?_)
            · refine wp_append_D0 (.tmp 46) (.tmp 47) rfl WB.heap.size (WB.heap.size) (by kernel_rfl) HO16.out.2.1 pa pb 0 pl pcap P (by kernel_rfl) (HC.out.2.2.1.below (HO16.out.1) (Nat.le_refl _)) hpnc (by omega) HO16.out.1.size ?_
              intro v17 WO17 hO17 hb17 hn17
              have HO17 := Lib.hid (show Below WB.heap.size WB WO17 ∧ _ ∧ _ ∧ _ ∧ _ from ⟨below_after HO16.out.1 hb17 HO16.out.1.size, hO17, HO16.out.2.2.1, blk_below HO16.out.2.2.2.1 hb17 (blk_lt HO16.out.2.2.2.1), hn17 _ (blk_lt HO16.out.2.2.2.1) HO16.out.2.2.2.2⟩)
              clear hO17 hb17 hn17
              refine hK' _ _ (HO17.out.1) ?_
              clear hK' K'
              go_simp
              refine wpAnyH_two (i := 9) (j := 14) (by kernel_rfl) rfl rfl (by kernel_rfl) (by kernel_rfl) (fun K' hK' => ?_) (fun K' hK' => ?_)
              · refine wp_append_D (.tmp 48) (.tmp 50) rfl WB.heap.size v17 P (by kernel_rfl) HO17.out.2.1 (WO1.heap.size) D hD 1 (by kernel_rfl) _ _ HO17.out.2.2.2.1 (by rw [HP.out]; omega) HO17.out.1.size ?_
                intro v18 WO18 hO18 hb18 hn18
                have HO18 := Lib.hid (show Below WB.heap.size WB WO18 ∧ _ ∧ _ from ⟨below_trans' HO17.out.1 hb18, hO18, HO17.out.2.2.1⟩)
                clear hO18 hb18 hn18
                refine hK' _ _ (HO18.out.1) ?_
                clear hK' K'
                go_simp
                refine wpAnyH_two (i := 10) (j := 14) (by kernel_rfl) rfl rfl (by kernel_rfl) (by kernel_rfl) (fun K' hK' => ?_) (fun K' hK' => ?_)
                · go_simp
                  obtain ⟨qa19, qb19, qc19, hv19, hQ19, hqn19, hql19, _, _⟩ := (HO18.out.2.1).s
                  have hpl19 : (P ++ [D]).length = pl + 1 := by rw [List.length_append, HP.out]; rfl
                  rw [hpl19] at hv19 hQ19 hql19
                  subst hv19
                  refine (climbE_any D hD (j : Int) (m : Int) qa19 qb19 0 (pl + 1) qc19 (P ++ [D]) WO18 hQ19 hql19 (HC.out.2.2.2.2.below (HO18.out.1))).mono ?_
                  rintro e WO19 ⟨hC19, hb19⟩
                  have hC19 : e = .returned (.tuple #[.agg (bV zL), .int .i64 1]) := by
                    rcases hC19 with ⟨j', k', e1, e2, _, _, h5, _⟩ | ⟨_, h⟩
                    · obtain rfl : j' = j := by omega
                      obtain rfl : k' = m := by omega
                      have := HST.out
                      omega
                    · exact h
                  subst hC19
                  clear hQ19 hpl19 hqn19 hql19
                  have HO19 := Lib.hid (show Below WB.heap.size WB WO19 ∧ _ ∧ _ from ⟨below_after HO18.out.1 hb19 HO18.out.1.size, (HO18.out.2.1).below hb19 (Nat.le_refl _), HO18.out.2.2⟩)
                  clear hb19
                  refine hK' _ _ (HO19.out.1) ?_
                  clear hK' K'
                  go_simp
                  refine wpAnyH_from (fuel := 3) 11 3 (fun _ _ _ _ _ h => h) (by kernel_rfl) (by decide) (by kernel_rfl) (HO19.out.1) ?_
                  simp only [List.drop_succ_cons, List.drop_zero, List.take_succ_cons, List.take_zero]
                  refine wpHeld_cons (.tuple #[.agg (bV zL), .int .i64 1]) (by kernel_rfl) ?_ ?_
                  · rintro w' -
                    try go_simp
                  refine wpHeld_cons (.agg (bV zL)) (by kernel_rfl) ?_ ?_
                  · rintro w' -
                    try go_simp
                  refine wpHeld_cons (.int .i64 1) (by kernel_rfl) ?_ ?_
                  · rintro w' -
                    try go_simp
                  refine wpHeld_nil ?_
                  go_simp
                  refine wpAnyH_one (i := 14) (by kernel_rfl) rfl (by kernel_rfl) (fun K' hK' => ?_)
                  go_simp
                  have HO20 := Lib.hid (show Below WB.heap.size WB _ ∧ _ ∧ WB.heap.size ≤ WO1.heap.size ∧ WB.heap.size ≤ WO19.heap.size ∧ _ ∧ _ from ⟨HO19.out.1.alloc HO19.out.1.size (.cells (List.toArray (.int .u8 0 :: .int .u8 0 :: .int .u8 0 :: .int .u8 0 :: .int .u8 0 :: .int .u8 0 :: .int .u8 0 :: .int .u8 0 :: .int .u8 0 :: .int .u8 0 :: .int .u8 0 :: .int .u8 0 :: .int .u8 0 :: .int .u8 0 :: .int .u8 0 :: .int .u8 0 :: .int .u8 0 :: .int .u8 0 :: .int .u8 0 :: .int .u8 0 :: .int .u8 0 :: .int .u8 0 :: .int .u8 0 :: .int .u8 0 :: .int .u8 0 :: .int .u8 0 :: .int .u8 0 :: .int .u8 0 :: .int .u8 0 :: .int .u8 0 :: .int .u8 0 :: .int .u8 0 :: [])) 26), (HO19.out.2.1).alloc (.cells (List.toArray (.int .u8 0 :: .int .u8 0 :: .int .u8 0 :: .int .u8 0 :: .int .u8 0 :: .int .u8 0 :: .int .u8 0 :: .int .u8 0 :: .int .u8 0 :: .int .u8 0 :: .int .u8 0 :: .int .u8 0 :: .int .u8 0 :: .int .u8 0 :: .int .u8 0 :: .int .u8 0 :: .int .u8 0 :: .int .u8 0 :: .int .u8 0 :: .int .u8 0 :: .int .u8 0 :: .int .u8 0 :: .int .u8 0 :: .int .u8 0 :: .int .u8 0 :: .int .u8 0 :: .int .u8 0 :: .int .u8 0 :: .int .u8 0 :: .int .u8 0 :: .int .u8 0 :: .int .u8 0 :: [])) 26), HO19.out.2.2, HO19.out.1.size, blk_new WO19 (.cells (List.toArray (.int .u8 0 :: .int .u8 0 :: .int .u8 0 :: .int .u8 0 :: .int .u8 0 :: .int .u8 0 :: .int .u8 0 :: .int .u8 0 :: .int .u8 0 :: .int .u8 0 :: .int .u8 0 :: .int .u8 0 :: .int .u8 0 :: .int .u8 0 :: .int .u8 0 :: .int .u8 0 :: .int .u8 0 :: .int .u8 0 :: .int .u8 0 :: .int .u8 0 :: .int .u8 0 :: .int .u8 0 :: .int .u8 0 :: .int .u8 0 :: .int .u8 0 :: .int .u8 0 :: .int .u8 0 :: .int .u8 0 :: .int .u8 0 :: .int .u8 0 :: .int .u8 0 :: .int .u8 0 :: [])) 26), own_ne_new HO19.out.2.1⟩)
                  generalize WO19.alloc (.cells (List.toArray (.int .u8 0 :: .int .u8 0 :: .int .u8 0 :: .int .u8 0 :: .int .u8 0 :: .int .u8 0 :: .int .u8 0 :: .int .u8 0 :: .int .u8 0 :: .int .u8 0 :: .int .u8 0 :: .int .u8 0 :: .int .u8 0 :: .int .u8 0 :: .int .u8 0 :: .int .u8 0 :: .int .u8 0 :: .int .u8 0 :: .int .u8 0 :: .int .u8 0 :: .int .u8 0 :: .int .u8 0 :: .int .u8 0 :: .int .u8 0 :: .int .u8 0 :: .int .u8 0 :: .int .u8 0 :: .int .u8 0 :: .int .u8 0 :: .int .u8 0 :: .int .u8 0 :: .int .u8 0 :: [])) 26) = WO20 at *
                  refine hK' _ _ (HO20.out.1) ?_
                  clear hK' K'
                  go_simp
                  refine wpAnyH_one (i := 15) (by kernel_rfl) rfl (by kernel_rfl) (fun K' hK' => ?_)
                  refine wp_store_row 26 (.tmp 11) (.tmp 53) (by kernel_rfl) WO19.heap.size (bV zL) (by kernel_rfl) (by kernel_rfl) 26 _ HO20.out.2.2.2.2.1 (by kernel_rfl) (by kernel_rfl) (bV_one _) ?_
                  have q5 := below_setRow HO20.out.1 HO20.out.2.2.2.1 (bV zL)
                  generalize WO20.setRow WO19.heap.size (bV zL) = WZ at *
                  refine hK' _ _ (q5) ?_
                  clear hK' K'
                  go_simp
                  refine wpAnyH_one (i := 16) (by kernel_rfl) rfl (by kernel_rfl) (fun K' hK' => ?_)
                  go_simp
                  refine hK' _ _ (q5) ?_
                  clear hK' K'
                  go_simp
                  refine wpAnyH_done (by kernel_rfl) ?_ _
                  refine NoPanic.normal ?_
                  go_simp
                  go_wp2_with fail
                  go_meet
                  case rel => exact ⟨rfl, q5⟩
                · go_simp
                  have HO21 := Lib.hid (show Below WB.heap.size WB _ ∧ _ ∧ WB.heap.size ≤ WO1.heap.size ∧ WB.heap.size ≤ WO18.heap.size ∧ _ ∧ _ from ⟨HO18.out.1.alloc HO18.out.1.size (.cells (List.toArray (.int .u8 0 :: .int .u8 0 :: .int .u8 0 :: .int .u8 0 :: .int .u8 0 :: .int .u8 0 :: .int .u8 0 :: .int .u8 0 :: .int .u8 0 :: .int .u8 0 :: .int .u8 0 :: .int .u8 0 :: .int .u8 0 :: .int .u8 0 :: .int .u8 0 :: .int .u8 0 :: .int .u8 0 :: .int .u8 0 :: .int .u8 0 :: .int .u8 0 :: .int .u8 0 :: .int .u8 0 :: .int .u8 0 :: .int .u8 0 :: .int .u8 0 :: .int .u8 0 :: .int .u8 0 :: .int .u8 0 :: .int .u8 0 :: .int .u8 0 :: .int .u8 0 :: .int .u8 0 :: [])) 26), (HO18.out.2.1).alloc (.cells (List.toArray (.int .u8 0 :: .int .u8 0 :: .int .u8 0 :: .int .u8 0 :: .int .u8 0 :: .int .u8 0 :: .int .u8 0 :: .int .u8 0 :: .int .u8 0 :: .int .u8 0 :: .int .u8 0 :: .int .u8 0 :: .int .u8 0 :: .int .u8 0 :: .int .u8 0 :: .int .u8 0 :: .int .u8 0 :: .int .u8 0 :: .int .u8 0 :: .int .u8 0 :: .int .u8 0 :: .int .u8 0 :: .int .u8 0 :: .int .u8 0 :: .int .u8 0 :: .int .u8 0 :: .int .u8 0 :: .int .u8 0 :: .int .u8 0 :: .int .u8 0 :: .int .u8 0 :: .int .u8 0 :: [])) 26), HO18.out.2.2, HO18.out.1.size, blk_new WO18 (.cells (List.toArray (.int .u8 0 :: .int .u8 0 :: .int .u8 0 :: .int .u8 0 :: .int .u8 0 :: .int .u8 0 :: .int .u8 0 :: .int .u8 0 :: .int .u8 0 :: .int .u8 0 :: .int .u8 0 :: .int .u8 0 :: .int .u8 0 :: .int .u8 0 :: .int .u8 0 :: .int .u8 0 :: .int .u8 0 :: .int .u8 0 :: .int .u8 0 :: .int .u8 0 :: .int .u8 0 :: .int .u8 0 :: .int .u8 0 :: .int .u8 0 :: .int .u8 0 :: .int .u8 0 :: .int .u8 0 :: .int .u8 0 :: .int .u8 0 :: .int .u8 0 :: .int .u8 0 :: .int .u8 0 :: [])) 26), own_ne_new HO18.out.2.1⟩)
                  generalize WO18.alloc (.cells (List.toArray (.int .u8 0 :: .int .u8 0 :: .int .u8 0 :: .int .u8 0 :: .int .u8 0 :: .int .u8 0 :: .int .u8 0 :: .int .u8 0 :: .int .u8 0 :: .int .u8 0 :: .int .u8 0 :: .int .u8 0 :: .int .u8 0 :: .int .u8 0 :: .int .u8 0 :: .int .u8 0 :: .int .u8 0 :: .int .u8 0 :: .int .u8 0 :: .int .u8 0 :: .int .u8 0 :: .int .u8 0 :: .int .u8 0 :: .int .u8 0 :: .int .u8 0 :: .int .u8 0 :: .int .u8 0 :: .int .u8 0 :: .int .u8 0 :: .int .u8 0 :: .int .u8 0 :: .int .u8 0 :: [])) 26) = WO21 at *
                  refine hK' _ _ (HO21.out.1) ?_
                  clear hK' K'
                  go_simp
                  refine wpAnyH_one (i := 10) (by kernel_rfl) rfl (by kernel_rfl) (fun K' hK' => ?_)
                  go_simp
                  obtain ⟨qa22, qb22, qc22, hv22, hQ22, hqn22, hql22, _, _⟩ := (HO21.out.2.1).s
                  have hpl22 : (P ++ [D]).length = pl + 1 := by rw [List.length_append, HP.out]; rfl
                  rw [hpl22] at hv22 hQ22 hql22
                  subst hv22
                  refine (climbE_any D hD (j : Int) (m : Int) qa22 qb22 0 (pl + 1) qc22 (P ++ [D]) WO21 hQ22 hql22 (HC.out.2.2.2.2.below (HO21.out.1))).mono ?_
                  rintro e WO22 ⟨hC22, hb22⟩
                  have hC22 : e = .returned (.tuple #[.agg (bV zL), .int .i64 1]) := by
                    rcases hC22 with ⟨j', k', e1, e2, _, _, h5, _⟩ | ⟨_, h⟩
                    · obtain rfl : j' = j := by omega
                      obtain rfl : k' = m := by omega
                      have := HST.out
                      omega
                    · exact h
                  subst hC22
                  clear hQ22 hpl22 hqn22 hql22
                  have HO22 := Lib.hid (show Below WB.heap.size WB WO22 ∧ _ ∧ _ ∧ _ ∧ _ ∧ _ from ⟨below_after HO21.out.1 hb22 HO21.out.1.size, (HO21.out.2.1).below hb22 (Nat.le_refl _), HO21.out.2.2.1, HO21.out.2.2.2.1, blk_below HO21.out.2.2.2.2.1 hb22 (blk_lt HO21.out.2.2.2.2.1), HO21.out.2.2.2.2.2⟩)
                  clear hb22
                  refine hK' _ _ (HO22.out.1) ?_
                  clear hK' K'
                  go_simp
                  refine wpAnyH_from (fuel := 2) 11 3 (fun _ _ _ _ _ h => h) (by kernel_rfl) (by decide) (by kernel_rfl) (HO22.out.1) ?_
                  simp only [List.drop_succ_cons, List.drop_zero, List.take_succ_cons, List.take_zero]
                  refine wpHeld_cons (.tuple #[.agg (bV zL), .int .i64 1]) (by kernel_rfl) ?_ ?_
                  · rintro w' -
                    try go_simp
                  refine wpHeld_cons (.agg (bV zL)) (by kernel_rfl) ?_ ?_
                  · rintro w' -
                    try go_simp
                  refine wpHeld_cons (.int .i64 1) (by kernel_rfl) ?_ ?_
                  · rintro w' -
                    try go_simp
                  refine wpHeld_nil ?_
                  go_simp
                  refine wpAnyH_one (i := 15) (by kernel_rfl) rfl (by kernel_rfl) (fun K' hK' => ?_)
                  refine wp_store_row 26 (.tmp 11) (.tmp 53) (by kernel_rfl) WO18.heap.size (bV zL) (by kernel_rfl) (by kernel_rfl) 26 _ HO22.out.2.2.2.2.1 (by kernel_rfl) (by kernel_rfl) (bV_one _) ?_
                  have q5 := below_setRow HO22.out.1 HO22.out.2.2.2.1 (bV zL)
                  generalize WO22.setRow WO18.heap.size (bV zL) = WZ at *
                  refine hK' _ _ (q5) ?_
                  clear hK' K'
                  go_simp
                  refine wpAnyH_one (i := 16) (by kernel_rfl) rfl (by kernel_rfl) (fun K' hK' => ?_)
                  go_simp
                  refine hK' _ _ (q5) ?_
                  clear hK' K'
                  go_simp
                  refine wpAnyH_done (by kernel_rfl) ?_ _
                  refine NoPanic.normal ?_
                  go_simp
                  go_wp2_with fail
                  go_meet
                  case rel => exact ⟨rfl, q5⟩
              · go_simp
                have HO23 := Lib.hid (show Below WB.heap.size WB _ ∧ _ ∧ WB.heap.size ≤ WO1.heap.size ∧ _ ∧ _ ∧ WO1.heap.size ≠ WO17.heap.size ∧ WB.heap.size ≤ WO17.heap.size ∧ _ ∧ _ from ⟨HO17.out.1.alloc HO17.out.1.size (.cells (List.toArray (.int .u8 0 :: .int .u8 0 :: .int .u8 0 :: .int .u8 0 :: .int .u8 0 :: .int .u8 0 :: .int .u8 0 :: .int .u8 0 :: .int .u8 0 :: .int .u8 0 :: .int .u8 0 :: .int .u8 0 :: .int .u8 0 :: .int .u8 0 :: .int .u8 0 :: .int .u8 0 :: .int .u8 0 :: .int .u8 0 :: .int .u8 0 :: .int .u8 0 :: .int .u8 0 :: .int .u8 0 :: .int .u8 0 :: .int .u8 0 :: .int .u8 0 :: .int .u8 0 :: .int .u8 0 :: .int .u8 0 :: .int .u8 0 :: .int .u8 0 :: .int .u8 0 :: .int .u8 0 :: [])) 26), (HO17.out.2.1).alloc (.cells (List.toArray (.int .u8 0 :: .int .u8 0 :: .int .u8 0 :: .int .u8 0 :: .int .u8 0 :: .int .u8 0 :: .int .u8 0 :: .int .u8 0 :: .int .u8 0 :: .int .u8 0 :: .int .u8 0 :: .int .u8 0 :: .int .u8 0 :: .int .u8 0 :: .int .u8 0 :: .int .u8 0 :: .int .u8 0 :: .int .u8 0 :: .int .u8 0 :: .int .u8 0 :: .int .u8 0 :: .int .u8 0 :: .int .u8 0 :: .int .u8 0 :: .int .u8 0 :: .int .u8 0 :: .int .u8 0 :: .int .u8 0 :: .int .u8 0 :: .int .u8 0 :: .int .u8 0 :: .int .u8 0 :: [])) 26), HO17.out.2.2.1, blk_alloc HO17.out.2.2.2.1 (.cells (List.toArray (.int .u8 0 :: .int .u8 0 :: .int .u8 0 :: .int .u8 0 :: .int .u8 0 :: .int .u8 0 :: .int .u8 0 :: .int .u8 0 :: .int .u8 0 :: .int .u8 0 :: .int .u8 0 :: .int .u8 0 :: .int .u8 0 :: .int .u8 0 :: .int .u8 0 :: .int .u8 0 :: .int .u8 0 :: .int .u8 0 :: .int .u8 0 :: .int .u8 0 :: .int .u8 0 :: .int .u8 0 :: .int .u8 0 :: .int .u8 0 :: .int .u8 0 :: .int .u8 0 :: .int .u8 0 :: .int .u8 0 :: .int .u8 0 :: .int .u8 0 :: .int .u8 0 :: .int .u8 0 :: [])) 26), HO17.out.2.2.2.2, other_block HO17.out.2.2.2.1 (Nat.le_refl _), HO17.out.1.size, blk_new WO17 (.cells (List.toArray (.int .u8 0 :: .int .u8 0 :: .int .u8 0 :: .int .u8 0 :: .int .u8 0 :: .int .u8 0 :: .int .u8 0 :: .int .u8 0 :: .int .u8 0 :: .int .u8 0 :: .int .u8 0 :: .int .u8 0 :: .int .u8 0 :: .int .u8 0 :: .int .u8 0 :: .int .u8 0 :: .int .u8 0 :: .int .u8 0 :: .int .u8 0 :: .int .u8 0 :: .int .u8 0 :: .int .u8 0 :: .int .u8 0 :: .int .u8 0 :: .int .u8 0 :: .int .u8 0 :: .int .u8 0 :: .int .u8 0 :: .int .u8 0 :: .int .u8 0 :: .int .u8 0 :: .int .u8 0 :: [])) 26), own_ne_new HO17.out.2.1⟩)
                generalize WO17.alloc (.cells (List.toArray (.int .u8 0 :: .int .u8 0 :: .int .u8 0 :: .int .u8 0 :: .int .u8 0 :: .int .u8 0 :: .int .u8 0 :: .int .u8 0 :: .int .u8 0 :: .int .u8 0 :: .int .u8 0 :: .int .u8 0 :: .int .u8 0 :: .int .u8 0 :: .int .u8 0 :: .int .u8 0 :: .int .u8 0 :: .int .u8 0 :: .int .u8 0 :: .int .u8 0 :: .int .u8 0 :: .int .u8 0 :: .int .u8 0 :: .int .u8 0 :: .int .u8 0 :: .int .u8 0 :: .int .u8 0 :: .int .u8 0 :: .int .u8 0 :: .int .u8 0 :: .int .u8 0 :: .int .u8 0 :: [])) 26) = WO23 at *
                refine hK' _ _ (HO23.out.1) ?_
                clear hK' K'
                go_simp
                refine wpAnyH_one (i := 9) (by kernel_rfl) rfl (by kernel_rfl) (fun K' hK' => ?_)
                refine wp_append_D (.tmp 48) (.tmp 50) rfl WB.heap.size v17 P (by kernel_rfl) HO23.out.2.1 (WO1.heap.size) D hD 1 (by kernel_rfl) _ _ HO23.out.2.2.2.1 (by rw [HP.out]; omega) HO23.out.1.size ?_
                intro v24 WO24 hO24 hb24 hn24
                have HO24 := Lib.hid (show Below WB.heap.size WB WO24 ∧ _ ∧ _ ∧ _ ∧ _ ∧ _ from ⟨below_trans' HO23.out.1 hb24, hO24, HO23.out.2.2.1, HO23.out.2.2.2.2.2.1, HO23.out.2.2.2.2.2.2.1, grown_fact hn24 HO23.out.2.2.2.2.2.2.2.1 HO23.out.2.2.2.2.2.2.2.2⟩)
                clear hO24 hb24 hn24
                refine hK' _ _ (HO24.out.1) ?_
                clear hK' K'
                go_simp
                refine wpAnyH_one (i := 10) (by kernel_rfl) rfl (by kernel_rfl) (fun K' hK' => ?_)
                go_simp
                obtain ⟨qa25, qb25, qc25, hv25, hQ25, hqn25, hql25, _, _⟩ := (HO24.out.2.1).s
                have hpl25 : (P ++ [D]).length = pl + 1 := by rw [List.length_append, HP.out]; rfl
                rw [hpl25] at hv25 hQ25 hql25
                subst hv25
                refine (climbE_any D hD (j : Int) (m : Int) qa25 qb25 0 (pl + 1) qc25 (P ++ [D]) WO24 hQ25 hql25 (HC.out.2.2.2.2.below (HO24.out.1))).mono ?_
                rintro e WO25 ⟨hC25, hb25⟩
                have hC25 : e = .returned (.tuple #[.agg (bV zL), .int .i64 1]) := by
                  rcases hC25 with ⟨j', k', e1, e2, _, _, h5, _⟩ | ⟨_, h⟩
                  · obtain rfl : j' = j := by omega
                    obtain rfl : k' = m := by omega
                    have := HST.out
                    omega
                  · exact h
                subst hC25
                clear hQ25 hpl25 hqn25 hql25
                have HO25 := Lib.hid (show Below WB.heap.size WB WO25 ∧ _ ∧ _ ∧ _ ∧ _ ∧ _ from ⟨below_after HO24.out.1 hb25 HO24.out.1.size, (HO24.out.2.1).below hb25 (Nat.le_refl _), HO24.out.2.2.1, HO24.out.2.2.2.1, HO24.out.2.2.2.2.1, blk_below HO24.out.2.2.2.2.2 hb25 (blk_lt HO24.out.2.2.2.2.2)⟩)
                clear hb25
                refine hK' _ _ (HO25.out.1) ?_
                clear hK' K'
                go_simp
                refine wpAnyH_from (fuel := 2) 11 3 (fun _ _ _ _ _ h => h) (by kernel_rfl) (by decide) (by kernel_rfl) (HO25.out.1) ?_
                simp only [List.drop_succ_cons, List.drop_zero, List.take_succ_cons, List.take_zero]
                refine wpHeld_cons (.tuple #[.agg (bV zL), .int .i64 1]) (by kernel_rfl) ?_ ?_
                · rintro w' -
                  try go_simp
                refine wpHeld_cons (.agg (bV zL)) (by kernel_rfl) ?_ ?_
                · rintro w' -
                  try go_simp
                refine wpHeld_cons (.int .i64 1) (by kernel_rfl) ?_ ?_
                · rintro w' -
                  try go_simp
                refine wpHeld_nil ?_
                go_simp
                refine wpAnyH_one (i := 15) (by kernel_rfl) rfl (by kernel_rfl) (fun K' hK' => ?_)
                refine wp_store_row 26 (.tmp 11) (.tmp 53) (by kernel_rfl) WO17.heap.size (bV zL) (by kernel_rfl) (by kernel_rfl) 26 _ HO25.out.2.2.2.2.2 (by kernel_rfl) (by kernel_rfl) (bV_one _) ?_
                have q5 := below_setRow HO25.out.1 HO25.out.2.2.2.2.1 (bV zL)
                generalize WO25.setRow WO17.heap.size (bV zL) = WZ at *
                refine hK' _ _ (q5) ?_
                clear hK' K'
                go_simp
                refine wpAnyH_one (i := 16) (by kernel_rfl) rfl (by kernel_rfl) (fun K' hK' => ?_)
                go_simp
                refine hK' _ _ (q5) ?_
                clear hK' K'
                go_simp
                refine wpAnyH_done (by kernel_rfl) ?_ _
                refine NoPanic.normal ?_
                go_simp
                go_wp2_with fail
                go_meet
                case rel => exact ⟨rfl, q5⟩
            · go_simp
              have HO26 := Lib.hid (show Below WB.heap.size WB _ ∧ _ ∧ WB.heap.size ≤ WO1.heap.size ∧ _ ∧ _ ∧ WO1.heap.size ≠ WO16.heap.size ∧ WB.heap.size ≤ WO16.heap.size ∧ _ ∧ _ from ⟨HO16.out.1.alloc HO16.out.1.size (.cells (List.toArray (.int .u8 0 :: .int .u8 0 :: .int .u8 0 :: .int .u8 0 :: .int .u8 0 :: .int .u8 0 :: .int .u8 0 :: .int .u8 0 :: .int .u8 0 :: .int .u8 0 :: .int .u8 0 :: .int .u8 0 :: .int .u8 0 :: .int .u8 0 :: .int .u8 0 :: .int .u8 0 :: .int .u8 0 :: .int .u8 0 :: .int .u8 0 :: .int .u8 0 :: .int .u8 0 :: .int .u8 0 :: .int .u8 0 :: .int .u8 0 :: .int .u8 0 :: .int .u8 0 :: .int .u8 0 :: .int .u8 0 :: .int .u8 0 :: .int .u8 0 :: .int .u8 0 :: .int .u8 0 :: [])) 26), (HO16.out.2.1).alloc (.cells (List.toArray (.int .u8 0 :: .int .u8 0 :: .int .u8 0 :: .int .u8 0 :: .int .u8 0 :: .int .u8 0 :: .int .u8 0 :: .int .u8 0 :: .int .u8 0 :: .int .u8 0 :: .int .u8 0 :: .int .u8 0 :: .int .u8 0 :: .int .u8 0 :: .int .u8 0 :: .int .u8 0 :: .int .u8 0 :: .int .u8 0 :: .int .u8 0 :: .int .u8 0 :: .int .u8 0 :: .int .u8 0 :: .int .u8 0 :: .int .u8 0 :: .int .u8 0 :: .int .u8 0 :: .int .u8 0 :: .int .u8 0 :: .int .u8 0 :: .int .u8 0 :: .int .u8 0 :: .int .u8 0 :: [])) 26), HO16.out.2.2.1, blk_alloc HO16.out.2.2.2.1 (.cells (List.toArray (.int .u8 0 :: .int .u8 0 :: .int .u8 0 :: .int .u8 0 :: .int .u8 0 :: .int .u8 0 :: .int .u8 0 :: .int .u8 0 :: .int .u8 0 :: .int .u8 0 :: .int .u8 0 :: .int .u8 0 :: .int .u8 0 :: .int .u8 0 :: .int .u8 0 :: .int .u8 0 :: .int .u8 0 :: .int .u8 0 :: .int .u8 0 :: .int .u8 0 :: .int .u8 0 :: .int .u8 0 :: .int .u8 0 :: .int .u8 0 :: .int .u8 0 :: .int .u8 0 :: .int .u8 0 :: .int .u8 0 :: .int .u8 0 :: .int .u8 0 :: .int .u8 0 :: .int .u8 0 :: [])) 26), HO16.out.2.2.2.2, other_block HO16.out.2.2.2.1 (Nat.le_refl _), HO16.out.1.size, blk_new WO16 (.cells (List.toArray (.int .u8 0 :: .int .u8 0 :: .int .u8 0 :: .int .u8 0 :: .int .u8 0 :: .int .u8 0 :: .int .u8 0 :: .int .u8 0 :: .int .u8 0 :: .int .u8 0 :: .int .u8 0 :: .int .u8 0 :: .int .u8 0 :: .int .u8 0 :: .int .u8 0 :: .int .u8 0 :: .int .u8 0 :: .int .u8 0 :: .int .u8 0 :: .int .u8 0 :: .int .u8 0 :: .int .u8 0 :: .int .u8 0 :: .int .u8 0 :: .int .u8 0 :: .int .u8 0 :: .int .u8 0 :: .int .u8 0 :: .int .u8 0 :: .int .u8 0 :: .int .u8 0 :: .int .u8 0 :: [])) 26), own_ne_new HO16.out.2.1⟩)
              generalize WO16.alloc (.cells (List.toArray (.int .u8 0 :: .int .u8 0 :: .int .u8 0 :: .int .u8 0 :: .int .u8 0 :: .int .u8 0 :: .int .u8 0 :: .int .u8 0 :: .int .u8 0 :: .int .u8 0 :: .int .u8 0 :: .int .u8 0 :: .int .u8 0 :: .int .u8 0 :: .int .u8 0 :: .int .u8 0 :: .int .u8 0 :: .int .u8 0 :: .int .u8 0 :: .int .u8 0 :: .int .u8 0 :: .int .u8 0 :: .int .u8 0 :: .int .u8 0 :: .int .u8 0 :: .int .u8 0 :: .int .u8 0 :: .int .u8 0 :: .int .u8 0 :: .int .u8 0 :: .int .u8 0 :: .int .u8 0 :: [])) 26) = WO26 at *
              refine hK' _ _ (HO26.out.1) ?_
              clear hK' K'
              go_simp
              refine wpAnyH_one (i := 6) (by kernel_rfl) rfl (by kernel_rfl) (fun K' hK' => ?_)
              refine wp_append_D0 (.tmp 46) (.tmp 47) rfl WB.heap.size (WB.heap.size) (by kernel_rfl) HO26.out.2.1 pa pb 0 pl pcap P (by kernel_rfl) (HC.out.2.2.1.below (HO26.out.1) (Nat.le_refl _)) hpnc (by omega) HO26.out.1.size ?_
              intro v27 WO27 hO27 hb27 hn27
              have HO27 := Lib.hid (show Below WB.heap.size WB WO27 ∧ _ ∧ _ ∧ _ ∧ _ ∧ _ ∧ _ ∧ _ ∧ _ from ⟨below_after HO26.out.1 hb27 HO26.out.1.size, hO27, HO26.out.2.2.1, blk_below HO26.out.2.2.2.1 hb27 (blk_lt HO26.out.2.2.2.1), hn27 _ (blk_lt HO26.out.2.2.2.1) HO26.out.2.2.2.2.1, HO26.out.2.2.2.2.2.1, HO26.out.2.2.2.2.2.2.1, blk_below HO26.out.2.2.2.2.2.2.2.1 hb27 (blk_lt HO26.out.2.2.2.2.2.2.2.1), hn27 _ (blk_lt HO26.out.2.2.2.2.2.2.2.1) HO26.out.2.2.2.2.2.2.2.2⟩)
              clear hO27 hb27 hn27
              refine hK' _ _ (HO27.out.1) ?_
              clear hK' K'
              go_simp
              refine wpAnyH_one (i := 9) (by kernel_rfl) rfl (by kernel_rfl) (fun K' hK' => ?_)
              refine wp_append_D (.tmp 48) (.tmp 50) rfl WB.heap.size v27 P (by kernel_rfl) HO27.out.2.1 (WO1.heap.size) D hD 1 (by kernel_rfl) _ _ HO27.out.2.2.2.1 (by rw [HP.out]; omega) HO27.out.1.size ?_
              intro v28 WO28 hO28 hb28 hn28
              have HO28 := Lib.hid (show Below WB.heap.size WB WO28 ∧ _ ∧ _ ∧ _ ∧ _ ∧ _ from ⟨below_trans' HO27.out.1 hb28, hO28, HO27.out.2.2.1, HO27.out.2.2.2.2.2.1, HO27.out.2.2.2.2.2.2.1, grown_fact hn28 HO27.out.2.2.2.2.2.2.2.1 HO27.out.2.2.2.2.2.2.2.2⟩)
              clear hO28 hb28 hn28
              refine hK' _ _ (HO28.out.1) ?_
              clear hK' K'
              go_simp
              refine wpAnyH_one (i := 10) (by kernel_rfl) rfl (by kernel_rfl) (fun K' hK' => ?_)
              go_simp
              obtain ⟨qa29, qb29, qc29, hv29, hQ29, hqn29, hql29, _, _⟩ := (HO28.out.2.1).s
              have hpl29 : (P ++ [D]).length = pl + 1 := by rw [List.length_append, HP.out]; rfl
              rw [hpl29] at hv29 hQ29 hql29
              subst hv29
              refine (climbE_any D hD (j : Int) (m : Int) qa29 qb29 0 (pl + 1) qc29 (P ++ [D]) WO28 hQ29 hql29 (HC.out.2.2.2.2.below (HO28.out.1))).mono ?_
              rintro e WO29 ⟨hC29, hb29⟩
              have hC29 : e = .returned (.tuple #[.agg (bV zL), .int .i64 1]) := by
                rcases hC29 with ⟨j', k', e1, e2, _, _, h5, _⟩ | ⟨_, h⟩
                · obtain rfl : j' = j := by omega
                  obtain rfl : k' = m := by omega
                  have := HST.out
                  omega
                · exact h
              subst hC29
              clear hQ29 hpl29 hqn29 hql29
              have HO29 := Lib.hid (show Below WB.heap.size WB WO29 ∧ _ ∧ _ ∧ _ ∧ _ ∧ _ from ⟨below_after HO28.out.1 hb29 HO28.out.1.size, (HO28.out.2.1).below hb29 (Nat.le_refl _), HO28.out.2.2.1, HO28.out.2.2.2.1, HO28.out.2.2.2.2.1, blk_below HO28.out.2.2.2.2.2 hb29 (blk_lt HO28.out.2.2.2.2.2)⟩)
              clear hb29
              refine hK' _ _ (HO29.out.1) ?_
              clear hK' K'
              go_simp
              refine wpAnyH_from (fuel := 2) 11 3 (fun _ _ _ _ _ h => h) (by kernel_rfl) (by decide) (by kernel_rfl) (HO29.out.1) ?_
              simp only [List.drop_succ_cons, List.drop_zero, List.take_succ_cons, List.take_zero]
              refine wpHeld_cons (.tuple #[.agg (bV zL), .int .i64 1]) (by kernel_rfl) ?_ ?_
              · rintro w' -
                try go_simp
              refine wpHeld_cons (.agg (bV zL)) (by kernel_rfl) ?_ ?_
              · rintro w' -
                try go_simp
              refine wpHeld_cons (.int .i64 1) (by kernel_rfl) ?_ ?_
              · rintro w' -
                try go_simp
              refine wpHeld_nil ?_
              go_simp
              refine wpAnyH_one (i := 15) (by kernel_rfl) rfl (by kernel_rfl) (fun K' hK' => ?_)
              refine wp_store_row 26 (.tmp 11) (.tmp 53) (by kernel_rfl) WO16.heap.size (bV zL) (by kernel_rfl) (by kernel_rfl) 26 _ HO29.out.2.2.2.2.2 (by kernel_rfl) (by kernel_rfl) (bV_one _) ?_
              have q5 := below_setRow HO29.out.1 HO29.out.2.2.2.2.1 (bV zL)
              generalize WO29.setRow WO16.heap.size (bV zL) = WZ at *
              refine hK' _ _ (q5) ?_
              clear hK' K'
              go_simp
              refine wpAnyH_one (i := 16) (by kernel_rfl) rfl (by kernel_rfl) (fun K' hK' => ?_)
              go_simp
              refine hK' _ _ (q5) ?_
              clear hK' K'
              go_simp
              refine wpAnyH_done (by kernel_rfl) ?_ _
              refine NoPanic.normal ?_
              go_simp
              go_wp2_with fail
              go_meet
              case rel => exact ⟨rfl, q5⟩
          · go_simp
            have HO30 := Lib.hid (show Below WB.heap.size WB _ ∧ _ ∧ WB.heap.size ≤ WO1.heap.size ∧ _ ∧ _ from ⟨HO1.out.1.alloc HO1.out.1.size (.cells (List.toArray (.int .u8 0 :: .int .u8 0 :: .int .u8 0 :: .int .u8 0 :: .int .u8 0 :: .int .u8 0 :: .int .u8 0 :: .int .u8 0 :: .int .u8 0 :: .int .u8 0 :: .int .u8 0 :: .int .u8 0 :: .int .u8 0 :: .int .u8 0 :: .int .u8 0 :: .int .u8 0 :: .int .u8 0 :: .int .u8 0 :: .int .u8 0 :: .int .u8 0 :: .int .u8 0 :: .int .u8 0 :: .int .u8 0 :: .int .u8 0 :: .int .u8 0 :: .int .u8 0 :: .int .u8 0 :: .int .u8 0 :: .int .u8 0 :: .int .u8 0 :: .int .u8 0 :: .int .u8 0 :: [])) 26), (HO1.out.2).alloc (.cells (List.toArray (.int .u8 0 :: .int .u8 0 :: .int .u8 0 :: .int .u8 0 :: .int .u8 0 :: .int .u8 0 :: .int .u8 0 :: .int .u8 0 :: .int .u8 0 :: .int .u8 0 :: .int .u8 0 :: .int .u8 0 :: .int .u8 0 :: .int .u8 0 :: .int .u8 0 :: .int .u8 0 :: .int .u8 0 :: .int .u8 0 :: .int .u8 0 :: .int .u8 0 :: .int .u8 0 :: .int .u8 0 :: .int .u8 0 :: .int .u8 0 :: .int .u8 0 :: .int .u8 0 :: .int .u8 0 :: .int .u8 0 :: .int .u8 0 :: .int .u8 0 :: .int .u8 0 :: .int .u8 0 :: [])) 26), HO1.out.1.size, blk_new WO1 (.cells (List.toArray (.int .u8 0 :: .int .u8 0 :: .int .u8 0 :: .int .u8 0 :: .int .u8 0 :: .int .u8 0 :: .int .u8 0 :: .int .u8 0 :: .int .u8 0 :: .int .u8 0 :: .int .u8 0 :: .int .u8 0 :: .int .u8 0 :: .int .u8 0 :: .int .u8 0 :: .int .u8 0 :: .int .u8 0 :: .int .u8 0 :: .int .u8 0 :: .int .u8 0 :: .int .u8 0 :: .int .u8 0 :: .int .u8 0 :: .int .u8 0 :: .int .u8 0 :: .int .u8 0 :: .int .u8 0 :: .int .u8 0 :: .int .u8 0 :: .int .u8 0 :: .int .u8 0 :: .int .u8 0 :: [])) 26), own_ne_new HO1.out.2⟩)
            generalize WO1.alloc (.cells (List.toArray (.int .u8 0 :: .int .u8 0 :: .int .u8 0 :: .int .u8 0 :: .int .u8 0 :: .int .u8 0 :: .int .u8 0 :: .int .u8 0 :: .int .u8 0 :: .int .u8 0 :: .int .u8 0 :: .int .u8 0 :: .int .u8 0 :: .int .u8 0 :: .int .u8 0 :: .int .u8 0 :: .int .u8 0 :: .int .u8 0 :: .int .u8 0 :: .int .u8 0 :: .int .u8 0 :: .int .u8 0 :: .int .u8 0 :: .int .u8 0 :: .int .u8 0 :: .int .u8 0 :: .int .u8 0 :: .int .u8 0 :: .int .u8 0 :: .int .u8 0 :: .int .u8 0 :: .int .u8 0 :: [])) 26) = WO30 at *
            refine hK' _ _ (HO30.out.1) ?_
            clear hK' K'
            go_simp
            refine wpAnyH_two (i := 6) (j := 8) (by kernel_rfl) rfl rfl (by kernel_rfl) (by kernel_rfl) (fun K' hK' => ?_) (fun K' hK' => ?_)
            · refine wp_append_D0 (.tmp 46) (.tmp 47) rfl WB.heap.size (WB.heap.size) (by kernel_rfl) HO30.out.2.1 pa pb 0 pl pcap P (by kernel_rfl) (HC.out.2.2.1.below (HO30.out.1) (Nat.le_refl _)) hpnc (by omega) HO30.out.1.size ?_
              intro v31 WO31 hO31 hb31 hn31
              have HO31 := Lib.hid (show Below WB.heap.size WB WO31 ∧ _ ∧ _ ∧ _ ∧ _ from ⟨below_after HO30.out.1 hb31 HO30.out.1.size, hO31, HO30.out.2.2.1, blk_below HO30.out.2.2.2.1 hb31 (blk_lt HO30.out.2.2.2.1), hn31 _ (blk_lt HO30.out.2.2.2.1) HO30.out.2.2.2.2⟩)
              clear hO31 hb31 hn31
              refine hK' _ _ (HO31.out.1) ?_
              clear hK' K'
              go_simp
              refine wpAnyH_one (i := 8) (by kernel_rfl) rfl (by kernel_rfl) (fun K' hK' => ?_)
              refine wp_build_D (.tmp 49) rfl D hD (by kernel_rfl) ?_
              have HO32 := Lib.hid (show Below WB.heap.size WB _ ∧ _ ∧ WB.heap.size ≤ WO1.heap.size ∧ _ ∧ _ ∧ WO1.heap.size ≠ WO31.heap.size ∧ WB.heap.size ≤ WO31.heap.size ∧ _ ∧ _ from ⟨HO31.out.1.alloc HO31.out.1.size (.cells (bV D) 26), (HO31.out.2.1).alloc (.cells (bV D) 26), HO31.out.2.2.1, blk_alloc HO31.out.2.2.2.1 (.cells (bV D) 26), HO31.out.2.2.2.2, other_block HO31.out.2.2.2.1 (Nat.le_refl _), HO31.out.1.size, blk_new WO31 (.cells (bV D) 26), own_ne_new HO31.out.2.1⟩)
              generalize WO31.alloc (.cells (bV D) 26) = WO32 at *
              refine hK' _ _ (HO32.out.1) ?_
              clear hK' K'
              go_simp
              refine wpAnyH_one (i := 9) (by kernel_rfl) rfl (by kernel_rfl) (fun K' hK' => ?_)
              refine wp_append_D (.tmp 48) (.tmp 50) rfl WB.heap.size v31 P (by kernel_rfl) HO32.out.2.1 (WO31.heap.size) D hD 1 (by kernel_rfl) _ _ HO32.out.2.2.2.2.2.2.2.1 (by rw [HP.out]; omega) HO32.out.1.size ?_
              intro v33 WO33 hO33 hb33 hn33
              have HO33 := Lib.hid (show Below WB.heap.size WB WO33 ∧ _ ∧ _ ∧ _ ∧ _ ∧ _ from ⟨below_trans' HO32.out.1 hb33, hO33, HO32.out.2.2.1, grown_fact hn33 HO32.out.2.2.2.1 HO32.out.2.2.2.2.1, HO32.out.2.2.2.2.2.1, HO32.out.2.2.2.2.2.2.1⟩)
              clear hO33 hb33 hn33
              refine hK' _ _ (HO33.out.1) ?_
              clear hK' K'
              go_simp
              refine wpAnyH_one (i := 10) (by kernel_rfl) rfl (by kernel_rfl) (fun K' hK' => ?_)
              go_simp
              obtain ⟨qa34, qb34, qc34, hv34, hQ34, hqn34, hql34, _, _⟩ := (HO33.out.2.1).s
              have hpl34 : (P ++ [D]).length = pl + 1 := by rw [List.length_append, HP.out]; rfl
              rw [hpl34] at hv34 hQ34 hql34
              subst hv34
              refine (climbE_any D hD (j : Int) (m : Int) qa34 qb34 0 (pl + 1) qc34 (P ++ [D]) WO33 hQ34 hql34 (HC.out.2.2.2.2.below (HO33.out.1))).mono ?_
              rintro e WO34 ⟨hC34, hb34⟩
              have hC34 : e = .returned (.tuple #[.agg (bV zL), .int .i64 1]) := by
                rcases hC34 with ⟨j', k', e1, e2, _, _, h5, _⟩ | ⟨_, h⟩
                · obtain rfl : j' = j := by omega
                  obtain rfl : k' = m := by omega
                  have := HST.out
                  omega
                · exact h
              subst hC34
              clear hQ34 hpl34 hqn34 hql34
              have HO34 := Lib.hid (show Below WB.heap.size WB WO34 ∧ _ ∧ _ ∧ _ ∧ _ ∧ _ from ⟨below_after HO33.out.1 hb34 HO33.out.1.size, (HO33.out.2.1).below hb34 (Nat.le_refl _), HO33.out.2.2.1, blk_below HO33.out.2.2.2.1 hb34 (blk_lt HO33.out.2.2.2.1), HO33.out.2.2.2.2.1, HO33.out.2.2.2.2.2⟩)
              clear hb34
              refine hK' _ _ (HO34.out.1) ?_
              clear hK' K'
              go_simp
              refine wpAnyH_from (fuel := 2) 11 3 (fun _ _ _ _ _ h => h) (by kernel_rfl) (by decide) (by kernel_rfl) (HO34.out.1) ?_
              simp only [List.drop_succ_cons, List.drop_zero, List.take_succ_cons, List.take_zero]
              refine wpHeld_cons (.tuple #[.agg (bV zL), .int .i64 1]) (by kernel_rfl) ?_ ?_
              · rintro w' -
                try go_simp
              refine wpHeld_cons (.agg (bV zL)) (by kernel_rfl) ?_ ?_
              · rintro w' -
                try go_simp
              refine wpHeld_cons (.int .i64 1) (by kernel_rfl) ?_ ?_
              · rintro w' -
                try go_simp
              refine wpHeld_nil ?_
              go_simp
              refine wpAnyH_one (i := 15) (by kernel_rfl) rfl (by kernel_rfl) (fun K' hK' => ?_)
              refine wp_store_row 26 (.tmp 11) (.tmp 53) (by kernel_rfl) WO1.heap.size (bV zL) (by kernel_rfl) (by kernel_rfl) 26 _ HO34.out.2.2.2.1 (by kernel_rfl) (by kernel_rfl) (bV_one _) ?_
              have q5 := below_setRow HO34.out.1 HO34.out.2.2.1 (bV zL)
              generalize WO34.setRow WO1.heap.size (bV zL) = WZ at *
              refine hK' _ _ (q5) ?_
              clear hK' K'
              go_simp
              refine wpAnyH_one (i := 16) (by kernel_rfl) rfl (by kernel_rfl) (fun K' hK' => ?_)
              go_simp
              refine hK' _ _ (q5) ?_
              clear hK' K'
              go_simp
              refine wpAnyH_done (by kernel_rfl) ?_ _
              refine NoPanic.normal ?_
              go_simp
              go_wp2_with fail
              go_meet
              case rel => exact ⟨rfl, q5⟩
            · refine wp_build_D (.tmp 49) rfl D hD (by kernel_rfl) ?_
              have HO35 := Lib.hid (show Below WB.heap.size WB _ ∧ _ ∧ WB.heap.size ≤ WO1.heap.size ∧ _ ∧ _ ∧ WO1.heap.size ≠ WO30.heap.size ∧ WB.heap.size ≤ WO30.heap.size ∧ _ ∧ _ from ⟨HO30.out.1.alloc HO30.out.1.size (.cells (bV D) 26), (HO30.out.2.1).alloc (.cells (bV D) 26), HO30.out.2.2.1, blk_alloc HO30.out.2.2.2.1 (.cells (bV D) 26), HO30.out.2.2.2.2, other_block HO30.out.2.2.2.1 (Nat.le_refl _), HO30.out.1.size, blk_new WO30 (.cells (bV D) 26), own_ne_new HO30.out.2.1⟩)
              generalize WO30.alloc (.cells (bV D) 26) = WO35 at *
              refine hK' _ _ (HO35.out.1) ?_
              clear hK' K'
              go_simp
              refine wpAnyH_one (i := 6) (by kernel_rfl) rfl (by kernel_rfl) (fun K' hK' => ?_)
              refine wp_append_D0 (.tmp 46) (.tmp 47) rfl WB.heap.size (WB.heap.size) (by kernel_rfl) HO35.out.2.1 pa pb 0 pl pcap P (by kernel_rfl) (HC.out.2.2.1.below (HO35.out.1) (Nat.le_refl _)) hpnc (by omega) HO35.out.1.size ?_
              intro v36 WO36 hO36 hb36 hn36
              have HO36 := Lib.hid (show Below WB.heap.size WB WO36 ∧ _ ∧ _ ∧ _ ∧ _ ∧ _ ∧ _ ∧ _ ∧ _ from ⟨below_after HO35.out.1 hb36 HO35.out.1.size, hO36, HO35.out.2.2.1, blk_below HO35.out.2.2.2.1 hb36 (blk_lt HO35.out.2.2.2.1), hn36 _ (blk_lt HO35.out.2.2.2.1) HO35.out.2.2.2.2.1, HO35.out.2.2.2.2.2.1, HO35.out.2.2.2.2.2.2.1, blk_below HO35.out.2.2.2.2.2.2.2.1 hb36 (blk_lt HO35.out.2.2.2.2.2.2.2.1), hn36 _ (blk_lt HO35.out.2.2.2.2.2.2.2.1) HO35.out.2.2.2.2.2.2.2.2⟩)
              clear hO36 hb36 hn36
              refine hK' _ _ (HO36.out.1) ?_
              clear hK' K'
              go_simp
              refine wpAnyH_one (i := 9) (by kernel_rfl) rfl (by kernel_rfl) (fun K' hK' => ?_)
              refine wp_append_D (.tmp 48) (.tmp 50) rfl WB.heap.size v36 P (by kernel_rfl) HO36.out.2.1 (WO30.heap.size) D hD 1 (by kernel_rfl) _ _ HO36.out.2.2.2.2.2.2.2.1 (by rw [HP.out]; omega) HO36.out.1.size ?_
              intro v37 WO37 hO37 hb37 hn37
              have HO37 := Lib.hid (show Below WB.heap.size WB WO37 ∧ _ ∧ _ ∧ _ ∧ _ ∧ _ from ⟨below_trans' HO36.out.1 hb37, hO37, HO36.out.2.2.1, grown_fact hn37 HO36.out.2.2.2.1 HO36.out.2.2.2.2.1, HO36.out.2.2.2.2.2.1, HO36.out.2.2.2.2.2.2.1⟩)
              clear hO37 hb37 hn37
              refine hK' _ _ (HO37.out.1) ?_
              clear hK' K'
              go_simp
              refine wpAnyH_one (i := 10) (by kernel_rfl) rfl (by kernel_rfl) (fun K' hK' => ?_)
              go_simp
              obtain ⟨qa38, qb38, qc38, hv38, hQ38, hqn38, hql38, _, _⟩ := (HO37.out.2.1).s
              have hpl38 : (P ++ [D]).length = pl + 1 := by rw [List.length_append, HP.out]; rfl
              rw [hpl38] at hv38 hQ38 hql38
              subst hv38
              refine (climbE_any D hD (j : Int) (m : Int) qa38 qb38 0 (pl + 1) qc38 (P ++ [D]) WO37 hQ38 hql38 (HC.out.2.2.2.2.below (HO37.out.1))).mono ?_
              rintro e WO38 ⟨hC38, hb38⟩
              have hC38 : e = .returned (.tuple #[.agg (bV zL), .int .i64 1]) := by
                rcases hC38 with ⟨j', k', e1, e2, _, _, h5, _⟩ | ⟨_, h⟩
                · obtain rfl : j' = j := by omega
                  obtain rfl : k' = m := by omega
                  have := HST.out
                  omega
                · exact h
              subst hC38
              clear hQ38 hpl38 hqn38 hql38
              have HO38 := Lib.hid (show Below WB.heap.size WB WO38 ∧ _ ∧ _ ∧ _ ∧ _ ∧ _ from ⟨below_after HO37.out.1 hb38 HO37.out.1.size, (HO37.out.2.1).below hb38 (Nat.le_refl _), HO37.out.2.2.1, blk_below HO37.out.2.2.2.1 hb38 (blk_lt HO37.out.2.2.2.1), HO37.out.2.2.2.2.1, HO37.out.2.2.2.2.2⟩)
              clear hb38
              refine hK' _ _ (HO38.out.1) ?_
              clear hK' K'
              go_simp
              refine wpAnyH_from (fuel := 2) 11 3 (fun _ _ _ _ _ h => h) (by kernel_rfl) (by decide) (by kernel_rfl) (HO38.out.1) ?_
              simp only [List.drop_succ_cons, List.drop_zero, List.take_succ_cons, List.take_zero]
              refine wpHeld_cons (.tuple #[.agg (bV zL), .int .i64 1]) (by kernel_rfl) ?_ ?_
              · rintro w' -
                try go_simp
              refine wpHeld_cons (.agg (bV zL)) (by kernel_rfl) ?_ ?_
              · rintro w' -
                try go_simp
              refine wpHeld_cons (.int .i64 1) (by kernel_rfl) ?_ ?_
              · rintro w' -
                try go_simp
              refine wpHeld_nil ?_
              go_simp
              refine wpAnyH_one (i := 15) (by kernel_rfl) rfl (by kernel_rfl) (fun K' hK' => ?_)
              refine wp_store_row 26 (.tmp 11) (.tmp 53) (by kernel_rfl) WO1.heap.size (bV zL) (by kernel_rfl) (by kernel_rfl) 26 _ HO38.out.2.2.2.1 (by kernel_rfl) (by kernel_rfl) (bV_one _) ?_
              have q5 := below_setRow HO38.out.1 HO38.out.2.2.1 (bV zL)
              generalize WO38.setRow WO1.heap.size (bV zL) = WZ at *
              refine hK' _ _ (q5) ?_
              clear hK' K'
              go_simp
              refine wpAnyH_one (i := 16) (by kernel_rfl) rfl (by kernel_rfl) (fun K' hK' => ?_)
              go_simp
              refine hK' _ _ (q5) ?_
              clear hK' K'
              go_simp
              refine wpAnyH_done (by kernel_rfl) ?_ _
              refine NoPanic.normal ?_
              go_simp
              go_wp2_with fail
              go_meet
              case rel => exact ⟨rfl, q5⟩
        · refine wp_build_D (.tmp 49) rfl D hD (by kernel_rfl) ?_
          rw [show WB.drew.alloc (.cells (bV D) 26) = (WB.alloc (.cells (bV D) 26)).drew from rfl]
          have HO39 := Lib.hid (show Below WB.heap.size WB _ ∧ WB.heap.size ≤ WB.heap.size ∧ _ from ⟨((Below.refl WB.heap.size WB).alloc (Nat.le_refl _) (.cells (bV D) 26)).drew, Nat.le_refl _, blk_drew (blk_new WB (.cells (bV D) 26))⟩)
          generalize (WB.alloc (.cells (bV D) 26)).drew = WO39 at *
          refine hK' _ _ (HO39.out.1) ?_
          clear hK' K'
          go_simp
          refine wpAnyH_two (i := 4) (j := 14) (by kernel_rfl) rfl rfl (by kernel_rfl) (by kernel_rfl) (fun K' hK' => ?_) (fun K' hK' => ?_)
          · go_simp
            have HO40 := Lib.hid (show Below WB.heap.size WB _ ∧ WB.heap.size ≤ WB.heap.size ∧ _ ∧ _ ∧ _ from ⟨HO39.out.1.alloc HO39.out.1.size (.cells #[] 26), HO39.out.2.1, blk_alloc HO39.out.2.2 (.cells #[] 26), (DgsO.empty WO39).mono (B' := WB.heap.size) HO39.out.1.size, new_ne (blk_lt HO39.out.2.2)⟩)
            generalize WO39.alloc (.cells #[] 26) = WO40 at *
            refine hK' _ _ (HO40.out.1) ?_
            clear hK' K'
            go_simp
            refine wpAnyH_two (i := 6) (j := 14) (by kernel_rfl) rfl rfl (by kernel_rfl) (by kernel_rfl) (fun K' hK' => ?_) (fun K' hK' => ?_)
            · refine wp_append_D0 (.tmp 46) (.tmp 47) rfl WB.heap.size (WO39.heap.size) (by kernel_rfl) HO40.out.2.2.2.1 pa pb 0 pl pcap P (by kernel_rfl) (HC.out.2.2.1.below (HO40.out.1) (Nat.le_refl _)) hpnc (by omega) HO40.out.1.size ?_
              intro v41 WO41 hO41 hb41 hn41
              have HO41 := Lib.hid (show Below WB.heap.size WB WO41 ∧ _ ∧ _ ∧ _ ∧ _ from ⟨below_after HO40.out.1 hb41 HO40.out.1.size, HO40.out.2.1, blk_below HO40.out.2.2.1 hb41 (blk_lt HO40.out.2.2.1), hO41, hn41 _ (blk_lt HO40.out.2.2.1) HO40.out.2.2.2.2⟩)
              clear hO41 hb41 hn41
              refine hK' _ _ (HO41.out.1) ?_
              clear hK' K'
              go_simp
              refine wpAnyH_two (i := 9) (j := 14) (by kernel_rfl) rfl rfl (by kernel_rfl) (by kernel_rfl) (fun K' hK' => ?_) (fun K' hK' => ?_)
              · refine wp_append_D (.tmp 48) (.tmp 50) rfl WB.heap.size v41 P (by kernel_rfl) HO41.out.2.2.2.1 (WB.heap.size) D hD 1 (by kernel_rfl) _ _ HO41.out.2.2.1 (by rw [HP.out]; omega) HO41.out.1.size ?_
                intro v42 WO42 hO42 hb42 hn42
                have HO42 := Lib.hid (show Below WB.heap.size WB WO42 ∧ _ ∧ _ from ⟨below_trans' HO41.out.1 hb42, HO41.out.2.1, hO42⟩)
                clear hO42 hb42 hn42
                refine hK' _ _ (HO42.out.1) ?_
                clear hK' K'
                go_simp
                refine wpAnyH_two (i := 10) (j := 14) (by kernel_rfl) rfl rfl (by kernel_rfl) (by kernel_rfl) (fun K' hK' => ?_) (fun K' hK' => ?_)
                · go_simp
                  obtain ⟨qa43, qb43, qc43, hv43, hQ43, hqn43, hql43, _, _⟩ := (HO42.out.2.2).s
                  have hpl43 : (P ++ [D]).length = pl + 1 := by rw [List.length_append, HP.out]; rfl
                  rw [hpl43] at hv43 hQ43 hql43
                  subst hv43
                  refine (climbE_any D hD (j : Int) (m : Int) qa43 qb43 0 (pl + 1) qc43 (P ++ [D]) WO42 hQ43 hql43 (HC.out.2.2.2.2.below (HO42.out.1))).mono ?_
                  rintro e WO43 ⟨hC43, hb43⟩
                  have hC43 : e = .returned (.tuple #[.agg (bV zL), .int .i64 1]) := by
                    rcases hC43 with ⟨j', k', e1, e2, _, _, h5, _⟩ | ⟨_, h⟩
                    · obtain rfl : j' = j := by omega
                      obtain rfl : k' = m := by omega
                      have := HST.out
                      omega
                    · exact h
                  subst hC43
                  clear hQ43 hpl43 hqn43 hql43
                  have HO43 := Lib.hid (show Below WB.heap.size WB WO43 ∧ _ ∧ _ from ⟨below_after HO42.out.1 hb43 HO42.out.1.size, HO42.out.2.1, (HO42.out.2.2).below hb43 (Nat.le_refl _)⟩)
                  clear hb43
                  refine hK' _ _ (HO43.out.1) ?_
                  clear hK' K'
                  go_simp
                  refine wpAnyH_from (fuel := 3) 11 3 (fun _ _ _ _ _ h => h) (by kernel_rfl) (by decide) (by kernel_rfl) (HO43.out.1) ?_
                  simp only [List.drop_succ_cons, List.drop_zero, List.take_succ_cons, List.take_zero]
                  refine wpHeld_cons (.tuple #[.agg (bV zL), .int .i64 1]) (by kernel_rfl) ?_ ?_
                  · rintro w' -
                    try go_simp
                  refine wpHeld_cons (.agg (bV zL)) (by kernel_rfl) ?_ ?_
                  · rintro w' -
                    try go_simp
                  refine wpHeld_cons (.int .i64 1) (by kernel_rfl) ?_ ?_
                  · rintro w' -
                    try go_simp
                  refine wpHeld_nil ?_
                  go_simp
                  refine wpAnyH_one (i := 14) (by kernel_rfl) rfl (by kernel_rfl) (fun K' hK' => ?_)
                  go_simp
                  have HO44 := Lib.hid (show Below WB.heap.size WB _ ∧ WB.heap.size ≤ WB.heap.size ∧ _ ∧ WB.heap.size ≤ WO43.heap.size ∧ _ ∧ _ from ⟨HO43.out.1.alloc HO43.out.1.size (.cells (List.toArray (.int .u8 0 :: .int .u8 0 :: .int .u8 0 :: .int .u8 0 :: .int .u8 0 :: .int .u8 0 :: .int .u8 0 :: .int .u8 0 :: .int .u8 0 :: .int .u8 0 :: .int .u8 0 :: .int .u8 0 :: .int .u8 0 :: .int .u8 0 :: .int .u8 0 :: .int .u8 0 :: .int .u8 0 :: .int .u8 0 :: .int .u8 0 :: .int .u8 0 :: .int .u8 0 :: .int .u8 0 :: .int .u8 0 :: .int .u8 0 :: .int .u8 0 :: .int .u8 0 :: .int .u8 0 :: .int .u8 0 :: .int .u8 0 :: .int .u8 0 :: .int .u8 0 :: .int .u8 0 :: [])) 26), HO43.out.2.1, (HO43.out.2.2).alloc (.cells (List.toArray (.int .u8 0 :: .int .u8 0 :: .int .u8 0 :: .int .u8 0 :: .int .u8 0 :: .int .u8 0 :: .int .u8 0 :: .int .u8 0 :: .int .u8 0 :: .int .u8 0 :: .int .u8 0 :: .int .u8 0 :: .int .u8 0 :: .int .u8 0 :: .int .u8 0 :: .int .u8 0 :: .int .u8 0 :: .int .u8 0 :: .int .u8 0 :: .int .u8 0 :: .int .u8 0 :: .int .u8 0 :: .int .u8 0 :: .int .u8 0 :: .int .u8 0 :: .int .u8 0 :: .int .u8 0 :: .int .u8 0 :: .int .u8 0 :: .int .u8 0 :: .int .u8 0 :: .int .u8 0 :: [])) 26), HO43.out.1.size, blk_new WO43 (.cells (List.toArray (.int .u8 0 :: .int .u8 0 :: .int .u8 0 :: .int .u8 0 :: .int .u8 0 :: .int .u8 0 :: .int .u8 0 :: .int .u8 0 :: .int .u8 0 :: .int .u8 0 :: .int .u8 0 :: .int .u8 0 :: .int .u8 0 :: .int .u8 0 :: .int .u8 0 :: .int .u8 0 :: .int .u8 0 :: .int .u8 0 :: .int .u8 0 :: .int .u8 0 :: .int .u8 0 :: .int .u8 0 :: .int .u8 0 :: .int .u8 0 :: .int .u8 0 :: .int .u8 0 :: .int .u8 0 :: .int .u8 0 :: .int .u8 0 :: .int .u8 0 :: .int .u8 0 :: .int .u8 0 :: [])) 26), own_ne_new HO43.out.2.2⟩)
                  generalize WO43.alloc (.cells (List.toArray (.int .u8 0 :: .int .u8 0 :: .int .u8 0 :: .int .u8 0 :: .int .u8 0 :: .int .u8 0 :: .int .u8 0 :: .int .u8 0 :: .int .u8 0 :: .int .u8 0 :: .int .u8 0 :: .int .u8 0 :: .int .u8 0 :: .int .u8 0 :: .int .u8 0 :: .int .u8 0 :: .int .u8 0 :: .int .u8 0 :: .int .u8 0 :: .int .u8 0 :: .int .u8 0 :: .int .u8 0 :: .int .u8 0 :: .int .u8 0 :: .int .u8 0 :: .int .u8 0 :: .int .u8 0 :: .int .u8 0 :: .int .u8 0 :: .int .u8 0 :: .int .u8 0 :: .int .u8 0 :: [])) 26) = WO44 at *
                  refine hK' _ _ (HO44.out.1) ?_
                  clear hK' K'
                  go_simp
                  refine wpAnyH_one (i := 15) (by kernel_rfl) rfl (by kernel_rfl) (fun K' hK' => ?_)
                  refine wp_store_row 26 (.tmp 11) (.tmp 53) (by kernel_rfl) WO43.heap.size (bV zL) (by kernel_rfl) (by kernel_rfl) 26 _ HO44.out.2.2.2.2.1 (by kernel_rfl) (by kernel_rfl) (bV_one _) ?_
                  have q5 := below_setRow HO44.out.1 HO44.out.2.2.2.1 (bV zL)
                  generalize WO44.setRow WO43.heap.size (bV zL) = WZ at *
                  refine hK' _ _ (q5) ?_
                  clear hK' K'
                  go_simp
                  refine wpAnyH_one (i := 16) (by kernel_rfl) rfl (by kernel_rfl) (fun K' hK' => ?_)
                  go_simp
                  refine hK' _ _ (q5) ?_
                  clear hK' K'
                  go_simp
                  refine wpAnyH_done (by kernel_rfl) ?_ _
                  refine NoPanic.normal ?_
                  go_simp
                  go_wp2_with fail
                  go_meet
                  case rel => exact ⟨rfl, q5⟩
                · go_simp
                  have HO45 := Lib.hid (show Below WB.heap.size WB _ ∧ WB.heap.size ≤ WB.heap.size ∧ _ ∧ WB.heap.size ≤ WO42.heap.size ∧ _ ∧ _ from ⟨HO42.out.1.alloc HO42.out.1.size (.cells (List.toArray (.int .u8 0 :: .int .u8 0 :: .int .u8 0 :: .int .u8 0 :: .int .u8 0 :: .int .u8 0 :: .int .u8 0 :: .int .u8 0 :: .int .u8 0 :: .int .u8 0 :: .int .u8 0 :: .int .u8 0 :: .int .u8 0 :: .int .u8 0 :: .int .u8 0 :: .int .u8 0 :: .int .u8 0 :: .int .u8 0 :: .int .u8 0 :: .int .u8 0 :: .int .u8 0 :: .int .u8 0 :: .int .u8 0 :: .int .u8 0 :: .int .u8 0 :: .int .u8 0 :: .int .u8 0 :: .int .u8 0 :: .int .u8 0 :: .int .u8 0 :: .int .u8 0 :: .int .u8 0 :: [])) 26), HO42.out.2.1, (HO42.out.2.2).alloc (.cells (List.toArray (.int .u8 0 :: .int .u8 0 :: .int .u8 0 :: .int .u8 0 :: .int .u8 0 :: .int .u8 0 :: .int .u8 0 :: .int .u8 0 :: .int .u8 0 :: .int .u8 0 :: .int .u8 0 :: .int .u8 0 :: .int .u8 0 :: .int .u8 0 :: .int .u8 0 :: .int .u8 0 :: .int .u8 0 :: .int .u8 0 :: .int .u8 0 :: .int .u8 0 :: .int .u8 0 :: .int .u8 0 :: .int .u8 0 :: .int .u8 0 :: .int .u8 0 :: .int .u8 0 :: .int .u8 0 :: .int .u8 0 :: .int .u8 0 :: .int .u8 0 :: .int .u8 0 :: .int .u8 0 :: [])) 26), HO42.out.1.size, blk_new WO42 (.cells (List.toArray (.int .u8 0 :: .int .u8 0 :: .int .u8 0 :: .int .u8 0 :: .int .u8 0 :: .int .u8 0 :: .int .u8 0 :: .int .u8 0 :: .int .u8 0 :: .int .u8 0 :: .int .u8 0 :: .int .u8 0 :: .int .u8 0 :: .int .u8 0 :: .int .u8 0 :: .int .u8 0 :: .int .u8 0 :: .int .u8 0 :: .int .u8 0 :: .int .u8 0 :: .int .u8 0 :: .int .u8 0 :: .int .u8 0 :: .int .u8 0 :: .int .u8 0 :: .int .u8 0 :: .int .u8 0 :: .int .u8 0 :: .int .u8 0 :: .int .u8 0 :: .int .u8 0 :: .int .u8 0 :: [])) 26), own_ne_new HO42.out.2.2⟩)
                  generalize WO42.alloc (.cells (List.toArray (.int .u8 0 :: .int .u8 0 :: .int .u8 0 :: .int .u8 0 :: .int .u8 0 :: .int .u8 0 :: .int .u8 0 :: .int .u8 0 :: .int .u8 0 :: .int .u8 0 :: .int .u8 0 :: .int .u8 0 :: .int .u8 0 :: .int .u8 0 :: .int .u8 0 :: .int .u8 0 :: .int .u8 0 :: .int .u8 0 :: .int .u8 0 :: .int .u8 0 :: .int .u8 0 :: .int .u8 0 :: .int .u8 0 :: .int .u8 0 :: .int .u8 0 :: .int .u8 0 :: .int .u8 0 :: .int .u8 0 :: .int .u8 0 :: .int .u8 0 :: .int .u8 0 :: .int .u8 0 :: [])) 26) = WO45 at *
                  refine hK' _ _ (HO45.out.1) ?_
                  clear hK' K'
                  go_simp
                  refine wpAnyH_one (i := 10) (by kernel_rfl) rfl (by kernel_rfl) (fun K' hK' => ?_)
                  go_simp
                  obtain ⟨qa46, qb46, qc46, hv46, hQ46, hqn46, hql46, _, _⟩ := (HO45.out.2.2.1).s
                  have hpl46 : (P ++ [D]).length = pl + 1 := by rw [List.length_append, HP.out]; rfl
                  rw [hpl46] at hv46 hQ46 hql46
                  subst hv46
                  refine (climbE_any D hD (j : Int) (m : Int) qa46 qb46 0 (pl + 1) qc46 (P ++ [D]) WO45 hQ46 hql46 (HC.out.2.2.2.2.below (HO45.out.1))).mono ?_
                  rintro e WO46 ⟨hC46, hb46⟩
                  have hC46 : e = .returned (.tuple #[.agg (bV zL), .int .i64 1]) := by
                    rcases hC46 with ⟨j', k', e1, e2, _, _, h5, _⟩ | ⟨_, h⟩
                    · obtain rfl : j' = j := by omega
                      obtain rfl : k' = m := by omega
                      have := HST.out
                      omega
                    · exact h
                  subst hC46
                  clear hQ46 hpl46 hqn46 hql46
                  have HO46 := Lib.hid (show Below WB.heap.size WB WO46 ∧ _ ∧ _ ∧ _ ∧ _ ∧ _ from ⟨below_after HO45.out.1 hb46 HO45.out.1.size, HO45.out.2.1, (HO45.out.2.2.1).below hb46 (Nat.le_refl _), HO45.out.2.2.2.1, blk_below HO45.out.2.2.2.2.1 hb46 (blk_lt HO45.out.2.2.2.2.1), HO45.out.2.2.2.2.2⟩)
                  clear hb46
                  refine hK' _ _ (HO46.out.1) ?_
                  clear hK' K'
                  go_simp
                  refine wpAnyH_from (fuel := 2) 11 3 (fun _ _ _ _ _ h => h) (by kernel_rfl) (by decide) (by kernel_rfl) (HO46.out.1) ?_
                  simp only [List.drop_succ_cons, List.drop_zero, List.take_succ_cons, List.take_zero]
                  refine wpHeld_cons (.tuple #[.agg (bV zL), .int .i64 1]) (by kernel_rfl) ?_ ?_
                  · rintro w' -
                    try go_simp
                  refine wpHeld_cons (.agg (bV zL)) (by kernel_rfl) ?_ ?_
                  · rintro w' -
                    try go_simp
                  refine wpHeld_cons (.int .i64 1) (by kernel_rfl) ?_ ?_
                  · rintro w' -
                    try go_simp
                  refine wpHeld_nil ?_
                  go_simp
                  refine wpAnyH_one (i := 15) (by kernel_rfl) rfl (by kernel_rfl) (fun K' hK' => ?_)
                  refine wp_store_row 26 (.tmp 11) (.tmp 53) (by kernel_rfl) WO42.heap.size (bV zL) (by kernel_rfl) (by kernel_rfl) 26 _ HO46.out.2.2.2.2.1 (by kernel_rfl) (by kernel_rfl) (bV_one _) ?_
                  have q5 := below_setRow HO46.out.1 HO46.out.2.2.2.1 (bV zL)
                  generalize WO46.setRow WO42.heap.size (bV zL) = WZ at *
                  refine hK' _ _ (q5) ?_
                  clear hK' K'
                  go_simp
                  refine wpAnyH_one (i := 16) (by kernel_rfl) rfl (by kernel_rfl) (fun K' hK' => ?_)
                  go_simp
                  refine hK' _ _ (q5) ?_
                  clear hK' K'
                  go_simp
                  refine wpAnyH_done (by kernel_rfl) ?_ _
                  refine NoPanic.normal ?_
                  go_simp
                  go_wp2_with fail
                  go_meet
                  case rel => exact ⟨rfl, q5⟩
              · go_simp
                have HO47 := Lib.hid (show Below WB.heap.size WB _ ∧ WB.heap.size ≤ WB.heap.size ∧ _ ∧ _ ∧ _ ∧ WB.heap.size ≠ WO41.heap.size ∧ WB.heap.size ≤ WO41.heap.size ∧ _ ∧ _ from ⟨HO41.out.1.alloc HO41.out.1.size (.cells (List.toArray (.int .u8 0 :: .int .u8 0 :: .int .u8 0 :: .int .u8 0 :: .int .u8 0 :: .int .u8 0 :: .int .u8 0 :: .int .u8 0 :: .int .u8 0 :: .int .u8 0 :: .int .u8 0 :: .int .u8 0 :: .int .u8 0 :: .int .u8 0 :: .int .u8 0 :: .int .u8 0 :: .int .u8 0 :: .int .u8 0 :: .int .u8 0 :: .int .u8 0 :: .int .u8 0 :: .int .u8 0 :: .int .u8 0 :: .int .u8 0 :: .int .u8 0 :: .int .u8 0 :: .int .u8 0 :: .int .u8 0 :: .int .u8 0 :: .int .u8 0 :: .int .u8 0 :: .int .u8 0 :: [])) 26), HO41.out.2.1, blk_alloc HO41.out.2.2.1 (.cells (List.toArray (.int .u8 0 :: .int .u8 0 :: .int .u8 0 :: .int .u8 0 :: .int .u8 0 :: .int .u8 0 :: .int .u8 0 :: .int .u8 0 :: .int .u8 0 :: .int .u8 0 :: .int .u8 0 :: .int .u8 0 :: .int .u8 0 :: .int .u8 0 :: .int .u8 0 :: .int .u8 0 :: .int .u8 0 :: .int .u8 0 :: .int .u8 0 :: .int .u8 0 :: .int .u8 0 :: .int .u8 0 :: .int .u8 0 :: .int .u8 0 :: .int .u8 0 :: .int .u8 0 :: .int .u8 0 :: .int .u8 0 :: .int .u8 0 :: .int .u8 0 :: .int .u8 0 :: .int .u8 0 :: [])) 26), (HO41.out.2.2.2.1).alloc (.cells (List.toArray (.int .u8 0 :: .int .u8 0 :: .int .u8 0 :: .int .u8 0 :: .int .u8 0 :: .int .u8 0 :: .int .u8 0 :: .int .u8 0 :: .int .u8 0 :: .int .u8 0 :: .int .u8 0 :: .int .u8 0 :: .int .u8 0 :: .int .u8 0 :: .int .u8 0 :: .int .u8 0 :: .int .u8 0 :: .int .u8 0 :: .int .u8 0 :: .int .u8 0 :: .int .u8 0 :: .int .u8 0 :: .int .u8 0 :: .int .u8 0 :: .int .u8 0 :: .int .u8 0 :: .int .u8 0 :: .int .u8 0 :: .int .u8 0 :: .int .u8 0 :: .int .u8 0 :: .int .u8 0 :: [])) 26), HO41.out.2.2.2.2, other_block HO41.out.2.2.1 (Nat.le_refl _), HO41.out.1.size, blk_new WO41 (.cells (List.toArray (.int .u8 0 :: .int .u8 0 :: .int .u8 0 :: .int .u8 0 :: .int .u8 0 :: .int .u8 0 :: .int .u8 0 :: .int .u8 0 :: .int .u8 0 :: .int .u8 0 :: .int .u8 0 :: .int .u8 0 :: .int .u8 0 :: .int .u8 0 :: .int .u8 0 :: .int .u8 0 :: .int .u8 0 :: .int .u8 0 :: .int .u8 0 :: .int .u8 0 :: .int .u8 0 :: .int .u8 0 :: .int .u8 0 :: .int .u8 0 :: .int .u8 0 :: .int .u8 0 :: .int .u8 0 :: .int .u8 0 :: .int .u8 0 :: .int .u8 0 :: .int .u8 0 :: .int .u8 0 :: [])) 26), own_ne_new HO41.out.2.2.2.1⟩)
                generalize WO41.alloc (.cells (List.toArray (.int .u8 0 :: .int .u8 0 :: .int .u8 0 :: .int .u8 0 :: .int .u8 0 :: .int .u8 0 :: .int .u8 0 :: .int .u8 0 :: .int .u8 0 :: .int .u8 0 :: .int .u8 0 :: .int .u8 0 :: .int .u8 0 :: .int .u8 0 :: .int .u8 0 :: .int .u8 0 :: .int .u8 0 :: .int .u8 0 :: .int .u8 0 :: .int .u8 0 :: .int .u8 0 :: .int .u8 0 :: .int .u8 0 :: .int .u8 0 :: .int .u8 0 :: .int .u8 0 :: .int .u8 0 :: .int .u8 0 :: .int .u8 0 :: .int .u8 0 :: .int .u8 0 :: .int .u8 0 :: [])) 26) = WO47 at *
                refine hK' _ _ (HO47.out.1) ?_
                clear hK' K'
                go_simp
                refine wpAnyH_one (i := 9) (by kernel_rfl) rfl (by kernel_rfl) (fun K' hK' => ?_)
                refine wp_append_D (.tmp 48) (.tmp 50) rfl WB.heap.size v41 P (by kernel_rfl) HO47.out.2.2.2.1 (WB.heap.size) D hD 1 (by kernel_rfl) _ _ HO47.out.2.2.1 (by rw [HP.out]; omega) HO47.out.1.size ?_
                intro v48 WO48 hO48 hb48 hn48
                have HO48 := Lib.hid (show Below WB.heap.size WB WO48 ∧ _ ∧ _ ∧ _ ∧ _ ∧ _ from ⟨below_trans' HO47.out.1 hb48, HO47.out.2.1, hO48, HO47.out.2.2.2.2.2.1, HO47.out.2.2.2.2.2.2.1, grown_fact hn48 HO47.out.2.2.2.2.2.2.2.1 HO47.out.2.2.2.2.2.2.2.2⟩)
                clear hO48 hb48 hn48
                refine hK' _ _ (HO48.out.1) ?_
                clear hK' K'
                go_simp
                refine wpAnyH_one (i := 10) (by kernel_rfl) rfl (by kernel_rfl) (fun K' hK' => ?_)
                go_simp
                obtain ⟨qa49, qb49, qc49, hv49, hQ49, hqn49, hql49, _, _⟩ := (HO48.out.2.2.1).s
                have hpl49 : (P ++ [D]).length = pl + 1 := by rw [List.length_append, HP.out]; rfl
                rw [hpl49] at hv49 hQ49 hql49
                subst hv49
                refine (climbE_any D hD (j : Int) (m : Int) qa49 qb49 0 (pl + 1) qc49 (P ++ [D]) WO48 hQ49 hql49 (HC.out.2.2.2.2.below (HO48.out.1))).mono ?_
                rintro e WO49 ⟨hC49, hb49⟩
                have hC49 : e = .returned (.tuple #[.agg (bV zL), .int .i64 1]) := by
                  rcases hC49 with ⟨j', k', e1, e2, _, _, h5, _⟩ | ⟨_, h⟩
                  · obtain rfl : j' = j := by omega
                    obtain rfl : k' = m := by omega
                    have := HST.out
                    omega
                  · exact h
                subst hC49
                clear hQ49 hpl49 hqn49 hql49
                have HO49 := Lib.hid (show Below WB.heap.size WB WO49 ∧ _ ∧ _ ∧ _ ∧ _ ∧ _ from ⟨below_after HO48.out.1 hb49 HO48.out.1.size, HO48.out.2.1, (HO48.out.2.2.1).below hb49 (Nat.le_refl _), HO48.out.2.2.2.1, HO48.out.2.2.2.2.1, blk_below HO48.out.2.2.2.2.2 hb49 (blk_lt HO48.out.2.2.2.2.2)⟩)
                clear hb49
                refine hK' _ _ (HO49.out.1) ?_
                clear hK' K'
                go_simp
                refine wpAnyH_from (fuel := 2) 11 3 (fun _ _ _ _ _ h => h) (by kernel_rfl) (by decide) (by kernel_rfl) (HO49.out.1) ?_
                simp only [List.drop_succ_cons, List.drop_zero, List.take_succ_cons, List.take_zero]
                refine wpHeld_cons (.tuple #[.agg (bV zL), .int .i64 1]) (by kernel_rfl) ?_ ?_
                · rintro w' -
                  try go_simp
                refine wpHeld_cons (.agg (bV zL)) (by kernel_rfl) ?_ ?_
                · rintro w' -
                  try go_simp
                refine wpHeld_cons (.int .i64 1) (by kernel_rfl) ?_ ?_
                · rintro w' -
                  try go_simp
                refine wpHeld_nil ?_
                go_simp
                refine wpAnyH_one (i := 15) (by kernel_rfl) rfl (by kernel_rfl) (fun K' hK' => ?_)
                refine wp_store_row 26 (.tmp 11) (.tmp 53) (by kernel_rfl) WO41.heap.size (bV zL) (by kernel_rfl) (by kernel_rfl) 26 _ HO49.out.2.2.2.2.2 (by kernel_rfl) (by kernel_rfl) (bV_one _) ?_
                have q5 := below_setRow HO49.out.1 HO49.out.2.2.2.2.1 (bV zL)
                generalize WO49.setRow WO41.heap.size (bV zL) = WZ at *
                refine hK' _ _ (q5) ?_
                clear hK' K'
                go_simp
                refine wpAnyH_one (i := 16) (by kernel_rfl) rfl (by kernel_rfl) (fun K' hK' => ?_)
                go_simp
                refine hK' _ _ (q5) ?_
                clear hK' K'
                go_simp
                refine wpAnyH_done (by kernel_rfl) ?_ _
                refine NoPanic.normal ?_
                go_simp
                go_wp2_with fail
                go_meet
                case rel => exact ⟨rfl, q5⟩
            · go_simp
              have HO50 := Lib.hid (show Below WB.heap.size WB _ ∧ WB.heap.size ≤ WB.heap.size ∧ _ ∧ _ ∧ _ ∧ WB.heap.size ≠ WO40.heap.size ∧ WB.heap.size ≤ WO40.heap.size ∧ _ ∧ _ from ⟨HO40.out.1.alloc HO40.out.1.size (.cells (List.toArray (.int .u8 0 :: .int .u8 0 :: .int .u8 0 :: .int .u8 0 :: .int .u8 0 :: .int .u8 0 :: .int .u8 0 :: .int .u8 0 :: .int .u8 0 :: .int .u8 0 :: .int .u8 0 :: .int .u8 0 :: .int .u8 0 :: .int .u8 0 :: .int .u8 0 :: .int .u8 0 :: .int .u8 0 :: .int .u8 0 :: .int .u8 0 :: .int .u8 0 :: .int .u8 0 :: .int .u8 0 :: .int .u8 0 :: .int .u8 0 :: .int .u8 0 :: .int .u8 0 :: .int .u8 0 :: .int .u8 0 :: .int .u8 0 :: .int .u8 0 :: .int .u8 0 :: .int .u8 0 :: [])) 26), HO40.out.2.1, blk_alloc HO40.out.2.2.1 (.cells (List.toArray (.int .u8 0 :: .int .u8 0 :: .int .u8 0 :: .int .u8 0 :: .int .u8 0 :: .int .u8 0 :: .int .u8 0 :: .int .u8 0 :: .int .u8 0 :: .int .u8 0 :: .int .u8 0 :: .int .u8 0 :: .int .u8 0 :: .int .u8 0 :: .int .u8 0 :: .int .u8 0 :: .int .u8 0 :: .int .u8 0 :: .int .u8 0 :: .int .u8 0 :: .int .u8 0 :: .int .u8 0 :: .int .u8 0 :: .int .u8 0 :: .int .u8 0 :: .int .u8 0 :: .int .u8 0 :: .int .u8 0 :: .int .u8 0 :: .int .u8 0 :: .int .u8 0 :: .int .u8 0 :: [])) 26), (HO40.out.2.2.2.1).alloc (.cells (List.toArray (.int .u8 0 :: .int .u8 0 :: .int .u8 0 :: .int .u8 0 :: .int .u8 0 :: .int .u8 0 :: .int .u8 0 :: .int .u8 0 :: .int .u8 0 :: .int .u8 0 :: .int .u8 0 :: .int .u8 0 :: .int .u8 0 :: .int .u8 0 :: .int .u8 0 :: .int .u8 0 :: .int .u8 0 :: .int .u8 0 :: .int .u8 0 :: .int .u8 0 :: .int .u8 0 :: .int .u8 0 :: .int .u8 0 :: .int .u8 0 :: .int .u8 0 :: .int .u8 0 :: .int .u8 0 :: .int .u8 0 :: .int .u8 0 :: .int .u8 0 :: .int .u8 0 :: .int .u8 0 :: [])) 26), HO40.out.2.2.2.2, other_block HO40.out.2.2.1 (Nat.le_refl _), HO40.out.1.size, blk_new WO40 (.cells (List.toArray (.int .u8 0 :: .int .u8 0 :: .int .u8 0 :: .int .u8 0 :: .int .u8 0 :: .int .u8 0 :: .int .u8 0 :: .int .u8 0 :: .int .u8 0 :: .int .u8 0 :: .int .u8 0 :: .int .u8 0 :: .int .u8 0 :: .int .u8 0 :: .int .u8 0 :: .int .u8 0 :: .int .u8 0 :: .int .u8 0 :: .int .u8 0 :: .int .u8 0 :: .int .u8 0 :: .int .u8 0 :: .int .u8 0 :: .int .u8 0 :: .int .u8 0 :: .int .u8 0 :: .int .u8 0 :: .int .u8 0 :: .int .u8 0 :: .int .u8 0 :: .int .u8 0 :: .int .u8 0 :: [])) 26), own_ne_new HO40.out.2.2.2.1⟩)
              generalize WO40.alloc (.cells (List.toArray (.int .u8 0 :: .int .u8 0 :: .int .u8 0 :: .int .u8 0 :: .int .u8 0 :: .int .u8 0 :: .int .u8 0 :: .int .u8 0 :: .int .u8 0 :: .int .u8 0 :: .int .u8 0 :: .int .u8 0 :: .int .u8 0 :: .int .u8 0 :: .int .u8 0 :: .int .u8 0 :: .int .u8 0 :: .int .u8 0 :: .int .u8 0 :: .int .u8 0 :: .int .u8 0 :: .int .u8 0 :: .int .u8 0 :: .int .u8 0 :: .int .u8 0 :: .int .u8 0 :: .int .u8 0 :: .int .u8 0 :: .int .u8 0 :: .int .u8 0 :: .int .u8 0 :: .int .u8 0 :: [])) 26) = WO50 at *
              refine hK' _ _ (HO50.out.1) ?_
              clear hK' K'
              go_simp
              refine wpAnyH_one (i := 6) (by kernel_rfl) rfl (by kernel_rfl) (fun K' hK' => ?_)
              refine wp_append_D0 (.tmp 46) (.tmp 47) rfl WB.heap.size (WO39.heap.size) (by kernel_rfl) HO50.out.2.2.2.1 pa pb 0 pl pcap P (by kernel_rfl) (HC.out.2.2.1.below (HO50.out.1) (Nat.le_refl _)) hpnc (by omega) HO50.out.1.size ?_
              intro v51 WO51 hO51 hb51 hn51
              have HO51 := Lib.hid (show Below WB.heap.size WB WO51 ∧ _ ∧ _ ∧ _ ∧ _ ∧ _ ∧ _ ∧ _ ∧ _ from ⟨below_after HO50.out.1 hb51 HO50.out.1.size, HO50.out.2.1, blk_below HO50.out.2.2.1 hb51 (blk_lt HO50.out.2.2.1), hO51, hn51 _ (blk_lt HO50.out.2.2.1) HO50.out.2.2.2.2.1, HO50.out.2.2.2.2.2.1, HO50.out.2.2.2.2.2.2.1, blk_below HO50.out.2.2.2.2.2.2.2.1 hb51 (blk_lt HO50.out.2.2.2.2.2.2.2.1), hn51 _ (blk_lt HO50.out.2.2.2.2.2.2.2.1) HO50.out.2.2.2.2.2.2.2.2⟩)
              clear hO51 hb51 hn51
              refine hK' _ _ (HO51.out.1) ?_
              clear hK' K'
              go_simp
              refine wpAnyH_one (i := 9) (by kernel_rfl) rfl (by kernel_rfl) (fun K' hK' => ?_)
              refine wp_append_D (.tmp 48) (.tmp 50) rfl WB.heap.size v51 P (by kernel_rfl) HO51.out.2.2.2.1 (WB.heap.size) D hD 1 (by kernel_rfl) _ _ HO51.out.2.2.1 (by rw [HP.out]; omega) HO51.out.1.size ?_
              intro v52 WO52 hO52 hb52 hn52
              have HO52 := Lib.hid (show Below WB.heap.size WB WO52 ∧ _ ∧ _ ∧ _ ∧ _ ∧ _ from ⟨below_trans' HO51.out.1 hb52, HO51.out.2.1, hO52, HO51.out.2.2.2.2.2.1, HO51.out.2.2.2.2.2.2.1, grown_fact hn52 HO51.out.2.2.2.2.2.2.2.1 HO51.out.2.2.2.2.2.2.2.2⟩)
              clear hO52 hb52 hn52
              refine hK' _ _ (HO52.out.1) ?_
              clear hK' K'
              go_simp
              refine wpAnyH_one (i := 10) (by kernel_rfl) rfl (by kernel_rfl) (fun K' hK' => ?_)
              go_simp
              obtain ⟨qa53, qb53, qc53, hv53, hQ53, hqn53, hql53, _, _⟩ := (HO52.out.2.2.1).s
              have hpl53 : (P ++ [D]).length = pl + 1 := by rw [List.length_append, HP.out]; rfl
              rw [hpl53] at hv53 hQ53 hql53
              subst hv53
              refine (climbE_any D hD (j : Int) (m : Int) qa53 qb53 0 (pl + 1) qc53 (P ++ [D]) WO52 hQ53 hql53 (HC.out.2.2.2.2.below (HO52.out.1))).mono ?_
              rintro e WO53 ⟨hC53, hb53⟩
              have hC53 : e = .returned (.tuple #[.agg (bV zL), .int .i64 1]) := by
                rcases hC53 with ⟨j', k', e1, e2, _, _, h5, _⟩ | ⟨_, h⟩
                · obtain rfl : j' = j := by omega
                  obtain rfl : k' = m := by omega
                  have := HST.out
                  omega
                · exact h
              subst hC53
              clear hQ53 hpl53 hqn53 hql53
              have HO53 := Lib.hid (show Below WB.heap.size WB WO53 ∧ _ ∧ _ ∧ _ ∧ _ ∧ _ from ⟨below_after HO52.out.1 hb53 HO52.out.1.size, HO52.out.2.1, (HO52.out.2.2.1).below hb53 (Nat.le_refl _), HO52.out.2.2.2.1, HO52.out.2.2.2.2.1, blk_below HO52.out.2.2.2.2.2 hb53 (blk_lt HO52.out.2.2.2.2.2)⟩)
              clear hb53
              refine hK' _ _ (HO53.out.1) ?_
              clear hK' K'
              go_simp
              refine wpAnyH_from (fuel := 2) 11 3 (fun _ _ _ _ _ h => h) (by kernel_rfl) (by decide) (by kernel_rfl) (HO53.out.1) ?_
              simp only [List.drop_succ_cons, List.drop_zero, List.take_succ_cons, List.take_zero]
              refine wpHeld_cons (.tuple #[.agg (bV zL), .int .i64 1]) (by kernel_rfl) ?_ ?_
              · rintro w' -
                try go_simp
              refine wpHeld_cons (.agg (bV zL)) (by kernel_rfl) ?_ ?_
              · rintro w' -
                try go_simp
              refine wpHeld_cons (.int .i64 1) (by kernel_rfl) ?_ ?_
              · rintro w' -
                try go_simp
              refine wpHeld_nil ?_
              go_simp
              refine wpAnyH_one (i := 15) (by kernel_rfl) rfl (by kernel_rfl) (fun K' hK' => ?_)
              refine wp_store_row 26 (.tmp 11) (.tmp 53) (by kernel_rfl) WO40.heap.size (bV zL) (by kernel_rfl) (by kernel_rfl) 26 _ HO53.out.2.2.2.2.2 (by kernel_rfl) (by kernel_rfl) (bV_one _) ?_
              have q5 := below_setRow HO53.out.1 HO53.out.2.2.2.2.1 (bV zL)
              generalize WO53.setRow WO40.heap.size (bV zL) = WZ at *
              refine hK' _ _ (q5) ?_
              clear hK' K'
              go_simp
              refine wpAnyH_one (i := 16) (by kernel_rfl) rfl (by kernel_rfl) (fun K' hK' => ?_)
              go_simp
              refine hK' _ _ (q5) ?_
              clear hK' K'
              go_simp
              refine wpAnyH_done (by kernel_rfl) ?_ _
              refine NoPanic.normal ?_
              go_simp
              go_wp2_with fail
              go_meet
              case rel => exact ⟨rfl, q5⟩
          · go_simp
            have HO54 := Lib.hid (show Below WB.heap.size WB _ ∧ WB.heap.size ≤ WB.heap.size ∧ _ ∧ WB.heap.size ≠ WO39.heap.size ∧ WB.heap.size ≤ WO39.heap.size ∧ _ from ⟨HO39.out.1.alloc HO39.out.1.size (.cells (List.toArray (.int .u8 0 :: .int .u8 0 :: .int .u8 0 :: .int .u8 0 :: .int .u8 0 :: .int .u8 0 :: .int .u8 0 :: .int .u8 0 :: .int .u8 0 :: .int .u8 0 :: .int .u8 0 :: .int .u8 0 :: .int .u8 0 :: .int .u8 0 :: .int .u8 0 :: .int .u8 0 :: .int .u8 0 :: .int .u8 0 :: .int .u8 0 :: .int .u8 0 :: .int .u8 0 :: .int .u8 0 :: .int .u8 0 :: .int .u8 0 :: .int .u8 0 :: .int .u8 0 :: .int .u8 0 :: .int .u8 0 :: .int .u8 0 :: .int .u8 0 :: .int .u8 0 :: .int .u8 0 :: [])) 26), HO39.out.2.1, blk_alloc HO39.out.2.2 (.cells (List.toArray (.int .u8 0 :: .int .u8 0 :: .int .u8 0 :: .int .u8 0 :: .int .u8 0 :: .int .u8 0 :: .int .u8 0 :: .int .u8 0 :: .int .u8 0 :: .int .u8 0 :: .int .u8 0 :: .int .u8 0 :: .int .u8 0 :: .int .u8 0 :: .int .u8 0 :: .int .u8 0 :: .int .u8 0 :: .int .u8 0 :: .int .u8 0 :: .int .u8 0 :: .int .u8 0 :: .int .u8 0 :: .int .u8 0 :: .int .u8 0 :: .int .u8 0 :: .int .u8 0 :: .int .u8 0 :: .int .u8 0 :: .int .u8 0 :: .int .u8 0 :: .int .u8 0 :: .int .u8 0 :: [])) 26), other_block HO39.out.2.2 (Nat.le_refl _), HO39.out.1.size, blk_new WO39 (.cells (List.toArray (.int .u8 0 :: .int .u8 0 :: .int .u8 0 :: .int .u8 0 :: .int .u8 0 :: .int .u8 0 :: .int .u8 0 :: .int .u8 0 :: .int .u8 0 :: .int .u8 0 :: .int .u8 0 :: .int .u8 0 :: .int .u8 0 :: .int .u8 0 :: .int .u8 0 :: .int .u8 0 :: .int .u8 0 :: .int .u8 0 :: .int .u8 0 :: .int .u8 0 :: .int .u8 0 :: .int .u8 0 :: .int .u8 0 :: .int .u8 0 :: .int .u8 0 :: .int .u8 0 :: .int .u8 0 :: .int .u8 0 :: .int .u8 0 :: .int .u8 0 :: .int .u8 0 :: .int .u8 0 :: [])) 26)⟩)
            generalize WO39.alloc (.cells (List.toArray (.int .u8 0 :: .int .u8 0 :: .int .u8 0 :: .int .u8 0 :: .int .u8 0 :: .int .u8 0 :: .int .u8 0 :: .int .u8 0 :: .int .u8 0 :: .int .u8 0 :: .int .u8 0 :: .int .u8 0 :: .int .u8 0 :: .int .u8 0 :: .int .u8 0 :: .int .u8 0 :: .int .u8 0 :: .int .u8 0 :: .int .u8 0 :: .int .u8 0 :: .int .u8 0 :: .int .u8 0 :: .int .u8 0 :: .int .u8 0 :: .int .u8 0 :: .int .u8 0 :: .int .u8 0 :: .int .u8 0 :: .int .u8 0 :: .int .u8 0 :: .int .u8 0 :: .int .u8 0 :: [])) 26) = WO54 at *
            refine hK' _ _ (HO54.out.1) ?_
            clear hK' K'
            go_simp
            refine wpAnyH_one (i := 4) (by kernel_rfl) rfl (by kernel_rfl) (fun K' hK' => ?_)
            go_simp
            have HO55 := Lib.hid (show Below WB.heap.size WB _ ∧ WB.heap.size ≤ WB.heap.size ∧ _ ∧ WB.heap.size ≠ WO39.heap.size ∧ WB.heap.size ≤ WO39.heap.size ∧ _ ∧ _ ∧ _ ∧ _ from ⟨HO54.out.1.alloc HO54.out.1.size (.cells #[] 26), HO54.out.2.1, blk_alloc HO54.out.2.2.1 (.cells #[] 26), HO54.out.2.2.2.1, HO54.out.2.2.2.2.1, blk_alloc HO54.out.2.2.2.2.2 (.cells #[] 26), (DgsO.empty WO54).mono (B' := WB.heap.size) HO54.out.1.size, new_ne (blk_lt HO54.out.2.2.1), new_ne (blk_lt HO54.out.2.2.2.2.2)⟩)
            generalize WO54.alloc (.cells #[] 26) = WO55 at *
            refine hK' _ _ (HO55.out.1) ?_
            clear hK' K'
            go_simp
            refine wpAnyH_one (i := 6) (by kernel_rfl) rfl (by kernel_rfl) (fun K' hK' => ?_)
            refine wp_append_D0 (.tmp 46) (.tmp 47) rfl WB.heap.size (WO54.heap.size) (by kernel_rfl) HO55.out.2.2.2.2.2.2.1 pa pb 0 pl pcap P (by kernel_rfl) (HC.out.2.2.1.below (HO55.out.1) (Nat.le_refl _)) hpnc (by omega) HO55.out.1.size ?_
            intro v56 WO56 hO56 hb56 hn56
            have HO56 := Lib.hid (show Below WB.heap.size WB WO56 ∧ _ ∧ _ ∧ _ ∧ _ ∧ _ ∧ _ ∧ _ ∧ _ from ⟨below_after HO55.out.1 hb56 HO55.out.1.size, HO55.out.2.1, blk_below HO55.out.2.2.1 hb56 (blk_lt HO55.out.2.2.1), HO55.out.2.2.2.1, HO55.out.2.2.2.2.1, blk_below HO55.out.2.2.2.2.2.1 hb56 (blk_lt HO55.out.2.2.2.2.2.1), hO56, hn56 _ (blk_lt HO55.out.2.2.1) HO55.out.2.2.2.2.2.2.2.1, hn56 _ (blk_lt HO55.out.2.2.2.2.2.1) HO55.out.2.2.2.2.2.2.2.2⟩)
            clear hO56 hb56 hn56
            refine hK' _ _ (HO56.out.1) ?_
            clear hK' K'
            go_simp
            refine wpAnyH_one (i := 9) (by kernel_rfl) rfl (by kernel_rfl) (fun K' hK' => ?_)
            refine wp_append_D (.tmp 48) (.tmp 50) rfl WB.heap.size v56 P (by kernel_rfl) HO56.out.2.2.2.2.2.2.1 (WB.heap.size) D hD 1 (by kernel_rfl) _ _ HO56.out.2.2.1 (by rw [HP.out]; omega) HO56.out.1.size ?_
            intro v57 WO57 hO57 hb57 hn57
            have HO57 := Lib.hid (show Below WB.heap.size WB WO57 ∧ _ ∧ _ ∧ _ ∧ _ ∧ _ from ⟨below_trans' HO56.out.1 hb57, HO56.out.2.1, HO56.out.2.2.2.1, HO56.out.2.2.2.2.1, grown_fact hn57 HO56.out.2.2.2.2.2.1 HO56.out.2.2.2.2.2.2.2.2, hO57⟩)
            clear hO57 hb57 hn57
            refine hK' _ _ (HO57.out.1) ?_
            clear hK' K'
            go_simp
            refine wpAnyH_one (i := 10) (by kernel_rfl) rfl (by kernel_rfl) (fun K' hK' => ?_)
            go_simp
            obtain ⟨qa58, qb58, qc58, hv58, hQ58, hqn58, hql58, _, _⟩ := (HO57.out.2.2.2.2.2).s
            have hpl58 : (P ++ [D]).length = pl + 1 := by rw [List.length_append, HP.out]; rfl
            rw [hpl58] at hv58 hQ58 hql58
            subst hv58
            refine (climbE_any D hD (j : Int) (m : Int) qa58 qb58 0 (pl + 1) qc58 (P ++ [D]) WO57 hQ58 hql58 (HC.out.2.2.2.2.below (HO57.out.1))).mono ?_
            rintro e WO58 ⟨hC58, hb58⟩
            have hC58 : e = .returned (.tuple #[.agg (bV zL), .int .i64 1]) := by
              rcases hC58 with ⟨j', k', e1, e2, _, _, h5, _⟩ | ⟨_, h⟩
              · obtain rfl : j' = j := by omega
                obtain rfl : k' = m := by omega
                have := HST.out
                omega
              · exact h
            subst hC58
            clear hQ58 hpl58 hqn58 hql58
            have HO58 := Lib.hid (show Below WB.heap.size WB WO58 ∧ _ ∧ _ ∧ _ ∧ _ ∧ _ from ⟨below_after HO57.out.1 hb58 HO57.out.1.size, HO57.out.2.1, HO57.out.2.2.1, HO57.out.2.2.2.1, blk_below HO57.out.2.2.2.2.1 hb58 (blk_lt HO57.out.2.2.2.2.1), (HO57.out.2.2.2.2.2).below hb58 (Nat.le_refl _)⟩)
            clear hb58
            refine hK' _ _ (HO58.out.1) ?_
            clear hK' K'
            go_simp
            refine wpAnyH_from (fuel := 2) 11 3 (fun _ _ _ _ _ h => h) (by kernel_rfl) (by decide) (by kernel_rfl) (HO58.out.1) ?_
            simp only [List.drop_succ_cons, List.drop_zero, List.take_succ_cons, List.take_zero]
            refine wpHeld_cons (.tuple #[.agg (bV zL), .int .i64 1]) (by kernel_rfl) ?_ ?_
            · rintro w' -
              try go_simp
            refine wpHeld_cons (.agg (bV zL)) (by kernel_rfl) ?_ ?_
            · rintro w' -
              try go_simp
            refine wpHeld_cons (.int .i64 1) (by kernel_rfl) ?_ ?_
            · rintro w' -
              try go_simp
            refine wpHeld_nil ?_
            go_simp
            refine wpAnyH_one (i := 15) (by kernel_rfl) rfl (by kernel_rfl) (fun K' hK' => ?_)
            refine wp_store_row 26 (.tmp 11) (.tmp 53) (by kernel_rfl) WO39.heap.size (bV zL) (by kernel_rfl) (by kernel_rfl) 26 _ HO58.out.2.2.2.2.1 (by kernel_rfl) (by kernel_rfl) (bV_one _) ?_
            have q5 := below_setRow HO58.out.1 HO58.out.2.2.2.1 (bV zL)
            generalize WO58.setRow WO39.heap.size (bV zL) = WZ at *
            refine hK' _ _ (q5) ?_
            clear hK' K'
            go_simp
            refine wpAnyH_one (i := 16) (by kernel_rfl) rfl (by kernel_rfl) (fun K' hK' => ?_)
            go_simp
            refine hK' _ _ (q5) ?_
            clear hK' K'
            go_simp
            refine wpAnyH_done (by kernel_rfl) ?_ _
            refine NoPanic.normal ?_
            go_simp
            go_wp2_with fail
            go_meet
            case rel => exact ⟨rfl, q5⟩
        · go_simp
          have HO59 := Lib.hid (show Below WB.heap.size WB _ ∧ WB.heap.size ≤ WB.heap.size ∧ _ from ⟨((Below.refl WB.heap.size WB).alloc (Nat.le_refl _) (.cells (List.toArray (.int .u8 0 :: .int .u8 0 :: .int .u8 0 :: .int .u8 0 :: .int .u8 0 :: .int .u8 0 :: .int .u8 0 :: .int .u8 0 :: .int .u8 0 :: .int .u8 0 :: .int .u8 0 :: .int .u8 0 :: .int .u8 0 :: .int .u8 0 :: .int .u8 0 :: .int .u8 0 :: .int .u8 0 :: .int .u8 0 :: .int .u8 0 :: .int .u8 0 :: .int .u8 0 :: .int .u8 0 :: .int .u8 0 :: .int .u8 0 :: .int .u8 0 :: .int .u8 0 :: .int .u8 0 :: .int .u8 0 :: .int .u8 0 :: .int .u8 0 :: .int .u8 0 :: .int .u8 0 :: [])) 26)).drew, Nat.le_refl _, blk_drew (blk_new WB (.cells (List.toArray (.int .u8 0 :: .int .u8 0 :: .int .u8 0 :: .int .u8 0 :: .int .u8 0 :: .int .u8 0 :: .int .u8 0 :: .int .u8 0 :: .int .u8 0 :: .int .u8 0 :: .int .u8 0 :: .int .u8 0 :: .int .u8 0 :: .int .u8 0 :: .int .u8 0 :: .int .u8 0 :: .int .u8 0 :: .int .u8 0 :: .int .u8 0 :: .int .u8 0 :: .int .u8 0 :: .int .u8 0 :: .int .u8 0 :: .int .u8 0 :: .int .u8 0 :: .int .u8 0 :: .int .u8 0 :: .int .u8 0 :: .int .u8 0 :: .int .u8 0 :: .int .u8 0 :: .int .u8 0 :: [])) 26))⟩)
          generalize (WB.alloc (.cells (List.toArray (.int .u8 0 :: .int .u8 0 :: .int .u8 0 :: .int .u8 0 :: .int .u8 0 :: .int .u8 0 :: .int .u8 0 :: .int .u8 0 :: .int .u8 0 :: .int .u8 0 :: .int .u8 0 :: .int .u8 0 :: .int .u8 0 :: .int .u8 0 :: .int .u8 0 :: .int .u8 0 :: .int .u8 0 :: .int .u8 0 :: .int .u8 0 :: .int .u8 0 :: .int .u8 0 :: .int .u8 0 :: .int .u8 0 :: .int .u8 0 :: .int .u8 0 :: .int .u8 0 :: .int .u8 0 :: .int .u8 0 :: .int .u8 0 :: .int .u8 0 :: .int .u8 0 :: .int .u8 0 :: [])) 26)).drew = WO59 at *
          refine hK' _ _ (HO59.out.1) ?_
          clear hK' K'
          go_simp
          refine wpAnyH_two (i := 4) (j := 8) (by kernel_rfl) rfl rfl (by kernel_rfl) (by kernel_rfl) (fun K' hK' => ?_) (fun K' hK' => ?_)
          · go_simp
            have HO60 := Lib.hid (show Below WB.heap.size WB _ ∧ WB.heap.size ≤ WB.heap.size ∧ _ ∧ _ ∧ _ from ⟨HO59.out.1.alloc HO59.out.1.size (.cells #[] 26), HO59.out.2.1, blk_alloc HO59.out.2.2 (.cells #[] 26), (DgsO.empty WO59).mono (B' := WB.heap.size) HO59.out.1.size, new_ne (blk_lt HO59.out.2.2)⟩)
            generalize WO59.alloc (.cells #[] 26) = WO60 at *
            refine hK' _ _ (HO60.out.1) ?_
            clear hK' K'
            go_simp
            refine wpAnyH_two (i := 6) (j := 8) (by kernel_rfl) rfl rfl (by kernel_rfl) (by kernel_rfl) (fun K' hK' => ?_) (fun K' hK' => ?_)
            · refine wp_append_D0 (.tmp 46) (.tmp 47) rfl WB.heap.size (WO59.heap.size) (by kernel_rfl) HO60.out.2.2.2.1 pa pb 0 pl pcap P (by kernel_rfl) (HC.out.2.2.1.below (HO60.out.1) (Nat.le_refl _)) hpnc (by omega) HO60.out.1.size ?_
              intro v61 WO61 hO61 hb61 hn61
              have HO61 := Lib.hid (show Below WB.heap.size WB WO61 ∧ _ ∧ _ ∧ _ ∧ _ from ⟨below_after HO60.out.1 hb61 HO60.out.1.size, HO60.out.2.1, blk_below HO60.out.2.2.1 hb61 (blk_lt HO60.out.2.2.1), hO61, hn61 _ (blk_lt HO60.out.2.2.1) HO60.out.2.2.2.2⟩)
              clear hO61 hb61 hn61
              refine hK' _ _ (HO61.out.1) ?_
              clear hK' K'
              go_simp
              refine wpAnyH_one (i := 8) (by kernel_rfl) rfl (by kernel_rfl) (fun K' hK' => ?_)
              refine wp_build_D (.tmp 49) rfl D hD (by kernel_rfl) ?_
              have HO62 := Lib.hid (show Below WB.heap.size WB _ ∧ WB.heap.size ≤ WB.heap.size ∧ _ ∧ _ ∧ _ ∧ WB.heap.size ≠ WO61.heap.size ∧ WB.heap.size ≤ WO61.heap.size ∧ _ ∧ _ from ⟨HO61.out.1.alloc HO61.out.1.size (.cells (bV D) 26), HO61.out.2.1, blk_alloc HO61.out.2.2.1 (.cells (bV D) 26), (HO61.out.2.2.2.1).alloc (.cells (bV D) 26), HO61.out.2.2.2.2, other_block HO61.out.2.2.1 (Nat.le_refl _), HO61.out.1.size, blk_new WO61 (.cells (bV D) 26), own_ne_new HO61.out.2.2.2.1⟩)
              generalize WO61.alloc (.cells (bV D) 26) = WO62 at *
              refine hK' _ _ (HO62.out.1) ?_
              clear hK' K'
              go_simp
              refine wpAnyH_one (i := 9) (by kernel_rfl) rfl (by kernel_rfl) (fun K' hK' => ?_)
              refine wp_append_D (.tmp 48) (.tmp 50) rfl WB.heap.size v61 P (by kernel_rfl) HO62.out.2.2.2.1 (WO61.heap.size) D hD 1 (by kernel_rfl) _ _ HO62.out.2.2.2.2.2.2.2.1 (by rw [HP.out]; omega) HO62.out.1.size ?_
              intro v63 WO63 hO63 hb63 hn63
              have HO63 := Lib.hid (show Below WB.heap.size WB WO63 ∧ _ ∧ _ ∧ _ ∧ _ ∧ _ from ⟨below_trans' HO62.out.1 hb63, HO62.out.2.1, grown_fact hn63 HO62.out.2.2.1 HO62.out.2.2.2.2.1, hO63, HO62.out.2.2.2.2.2.1, HO62.out.2.2.2.2.2.2.1⟩)
              clear hO63 hb63 hn63
              refine hK' _ _ (HO63.out.1) ?_
              clear hK' K'
              go_simp
              refine wpAnyH_one (i := 10) (by kernel_rfl) rfl (by kernel_rfl) (fun K' hK' => ?_)
              go_simp
              obtain ⟨qa64, qb64, qc64, hv64, hQ64, hqn64, hql64, _, _⟩ := (HO63.out.2.2.2.1).s
              have hpl64 : (P ++ [D]).length = pl + 1 := by rw [List.length_append, HP.out]; rfl
              rw [hpl64] at hv64 hQ64 hql64
              subst hv64
              refine (climbE_any D hD (j : Int) (m : Int) qa64 qb64 0 (pl + 1) qc64 (P ++ [D]) WO63 hQ64 hql64 (HC.out.2.2.2.2.below (HO63.out.1))).mono ?_
              rintro e WO64 ⟨hC64, hb64⟩
              have hC64 : e = .returned (.tuple #[.agg (bV zL), .int .i64 1]) := by
                rcases hC64 with ⟨j', k', e1, e2, _, _, h5, _⟩ | ⟨_, h⟩
                · obtain rfl : j' = j := by omega
                  obtain rfl : k' = m := by omega
                  have := HST.out
                  omega
                · exact h
              subst hC64
              clear hQ64 hpl64 hqn64 hql64
              have HO64 := Lib.hid (show Below WB.heap.size WB WO64 ∧ _ ∧ _ ∧ _ ∧ _ ∧ _ from ⟨below_after HO63.out.1 hb64 HO63.out.1.size, HO63.out.2.1, blk_below HO63.out.2.2.1 hb64 (blk_lt HO63.out.2.2.1), (HO63.out.2.2.2.1).below hb64 (Nat.le_refl _), HO63.out.2.2.2.2.1, HO63.out.2.2.2.2.2⟩)
              clear hb64
              refine hK' _ _ (HO64.out.1) ?_
              clear hK' K'
              go_simp
              refine wpAnyH_from (fuel := 2) 11 3 (fun _ _ _ _ _ h => h) (by kernel_rfl) (by decide) (by kernel_rfl) (HO64.out.1) ?_
              simp only [List.drop_succ_cons, List.drop_zero, List.take_succ_cons, List.take_zero]
              refine wpHeld_cons (.tuple #[.agg (bV zL), .int .i64 1]) (by kernel_rfl) ?_ ?_
              · rintro w' -
                try go_simp
              refine wpHeld_cons (.agg (bV zL)) (by kernel_rfl) ?_ ?_
              · rintro w' -
                try go_simp
              refine wpHeld_cons (.int .i64 1) (by kernel_rfl) ?_ ?_
              · rintro w' -
                try go_simp
              refine wpHeld_nil ?_
              go_simp
              refine wpAnyH_one (i := 15) (by kernel_rfl) rfl (by kernel_rfl) (fun K' hK' => ?_)
              refine wp_store_row 26 (.tmp 11) (.tmp 53) (by kernel_rfl) WB.heap.size (bV zL) (by kernel_rfl) (by kernel_rfl) 26 _ HO64.out.2.2.1 (by kernel_rfl) (by kernel_rfl) (bV_one _) ?_
              have q5 := below_setRow HO64.out.1 HO64.out.2.1 (bV zL)
              generalize WO64.setRow WB.heap.size (bV zL) = WZ at *
              refine hK' _ _ (q5) ?_
              clear hK' K'
              go_simp
              refine wpAnyH_one (i := 16) (by kernel_rfl) rfl (by kernel_rfl) (fun K' hK' => ?_)
              go_simp
              refine hK' _ _ (q5) ?_
              clear hK' K'
              go_simp
              refine wpAnyH_done (by kernel_rfl) ?_ _
              refine NoPanic.normal ?_
              go_simp
              go_wp2_with fail
              go_meet
              case rel => exact ⟨rfl, q5⟩
            · refine wp_build_D (.tmp 49) rfl D hD (by kernel_rfl) ?_
              have HO65 := Lib.hid (show Below WB.heap.size WB _ ∧ WB.heap.size ≤ WB.heap.size ∧ _ ∧ _ ∧ _ ∧ WB.heap.size ≠ WO60.heap.size ∧ WB.heap.size ≤ WO60.heap.size ∧ _ ∧ _ from ⟨HO60.out.1.alloc HO60.out.1.size (.cells (bV D) 26), HO60.out.2.1, blk_alloc HO60.out.2.2.1 (.cells (bV D) 26), (HO60.out.2.2.2.1).alloc (.cells (bV D) 26), HO60.out.2.2.2.2, other_block HO60.out.2.2.1 (Nat.le_refl _), HO60.out.1.size, blk_new WO60 (.cells (bV D) 26), own_ne_new HO60.out.2.2.2.1⟩)
              generalize WO60.alloc (.cells (bV D) 26) = WO65 at *
              refine hK' _ _ (HO65.out.1) ?_
              clear hK' K'
              go_simp
              refine wpAnyH_one (i := 6) (by kernel_rfl) rfl (by kernel_rfl) (fun K' hK' => ?_)
              refine wp_append_D0 (.tmp 46) (.tmp 47) rfl WB.heap.size (WO59.heap.size) (by kernel_rfl) HO65.out.2.2.2.1 pa pb 0 pl pcap P (by kernel_rfl) (HC.out.2.2.1.below (HO65.out.1) (Nat.le_refl _)) hpnc (by omega) HO65.out.1.size ?_
              intro v66 WO66 hO66 hb66 hn66
              have HO66 := Lib.hid (show Below WB.heap.size WB WO66 ∧ _ ∧ _ ∧ _ ∧ _ ∧ _ ∧ _ ∧ _ ∧ _ from ⟨below_after HO65.out.1 hb66 HO65.out.1.size, HO65.out.2.1, blk_below HO65.out.2.2.1 hb66 (blk_lt HO65.out.2.2.1), hO66, hn66 _ (blk_lt HO65.out.2.2.1) HO65.out.2.2.2.2.1, HO65.out.2.2.2.2.2.1, HO65.out.2.2.2.2.2.2.1, blk_below HO65.out.2.2.2.2.2.2.2.1 hb66 (blk_lt HO65.out.2.2.2.2.2.2.2.1), hn66 _ (blk_lt HO65.out.2.2.2.2.2.2.2.1) HO65.out.2.2.2.2.2.2.2.2⟩)
              clear hO66 hb66 hn66
              refine hK' _ _ (HO66.out.1) ?_
              clear hK' K'
              go_simp
              refine wpAnyH_one (i := 9) (by kernel_rfl) rfl (by kernel_rfl) (fun K' hK' => ?_)
              refine wp_append_D (.tmp 48) (.tmp 50) rfl WB.heap.size v66 P (by kernel_rfl) HO66.out.2.2.2.1 (WO60.heap.size) D hD 1 (by kernel_rfl) _ _ HO66.out.2.2.2.2.2.2.2.1 (by rw [HP.out]; omega) HO66.out.1.size ?_
              intro v67 WO67 hO67 hb67 hn67
              have HO67 := Lib.hid (show Below WB.heap.size WB WO67 ∧ _ ∧ _ ∧ _ ∧ _ ∧ _ from ⟨below_trans' HO66.out.1 hb67, HO66.out.2.1, grown_fact hn67 HO66.out.2.2.1 HO66.out.2.2.2.2.1, hO67, HO66.out.2.2.2.2.2.1, HO66.out.2.2.2.2.2.2.1⟩)
              clear hO67 hb67 hn67
              refine hK' _ _ (HO67.out.1) ?_
              clear hK' K'
              go_simp
              refine wpAnyH_one (i := 10) (by kernel_rfl) rfl (by kernel_rfl) (fun K' hK' => ?_)
              go_simp
              obtain ⟨qa68, qb68, qc68, hv68, hQ68, hqn68, hql68, _, _⟩ := (HO67.out.2.2.2.1).s
              have hpl68 : (P ++ [D]).length = pl + 1 := by rw [List.length_append, HP.out]; rfl
              rw [hpl68] at hv68 hQ68 hql68
              subst hv68
              refine (climbE_any D hD (j : Int) (m : Int) qa68 qb68 0 (pl + 1) qc68 (P ++ [D]) WO67 hQ68 hql68 (HC.out.2.2.2.2.below (HO67.out.1))).mono ?_
              rintro e WO68 ⟨hC68, hb68⟩
              have hC68 : e = .returned (.tuple #[.agg (bV zL), .int .i64 1]) := by
                rcases hC68 with ⟨j', k', e1, e2, _, _, h5, _⟩ | ⟨_, h⟩
                · obtain rfl : j' = j := by omega
                  obtain rfl : k' = m := by omega
                  have := HST.out
                  omega
                · exact h
              subst hC68
              clear hQ68 hpl68 hqn68 hql68
              have HO68 := Lib.hid (show Below WB.heap.size WB WO68 ∧ _ ∧ _ ∧ _ ∧ _ ∧ _ from ⟨below_after HO67.out.1 hb68 HO67.out.1.size, HO67.out.2.1, blk_below HO67.out.2.2.1 hb68 (blk_lt HO67.out.2.2.1), (HO67.out.2.2.2.1).below hb68 (Nat.le_refl _), HO67.out.2.2.2.2.1, HO67.out.2.2.2.2.2⟩)
              clear hb68
              refine hK' _ _ (HO68.out.1) ?_
              clear hK' K'
              go_simp
              refine wpAnyH_from (fuel := 2) 11 3 (fun _ _ _ _ _ h => h) (by kernel_rfl) (by decide) (by kernel_rfl) (HO68.out.1) ?_
              simp only [List.drop_succ_cons, List.drop_zero, List.take_succ_cons, List.take_zero]
              refine wpHeld_cons (.tuple #[.agg (bV zL), .int .i64 1]) (by kernel_rfl) ?_ ?_
              · rintro w' -
                try go_simp
              refine wpHeld_cons (.agg (bV zL)) (by kernel_rfl) ?_ ?_
              · rintro w' -
                try go_simp
              refine wpHeld_cons (.int .i64 1) (by kernel_rfl) ?_ ?_
              · rintro w' -
                try go_simp
              refine wpHeld_nil ?_
              go_simp
              refine wpAnyH_one (i := 15) (by kernel_rfl) rfl (by kernel_rfl) (fun K' hK' => ?_)
              refine wp_store_row 26 (.tmp 11) (.tmp 53) (by kernel_rfl) WB.heap.size (bV zL) (by kernel_rfl) (by kernel_rfl) 26 _ HO68.out.2.2.1 (by kernel_rfl) (by kernel_rfl) (bV_one _) ?_
              have q5 := below_setRow HO68.out.1 HO68.out.2.1 (bV zL)
              generalize WO68.setRow WB.heap.size (bV zL) = WZ at *
              refine hK' _ _ (q5) ?_
              clear hK' K'
              go_simp
              refine wpAnyH_one (i := 16) (by kernel_rfl) rfl (by kernel_rfl) (fun K' hK' => ?_)
              go_simp
              refine hK' _ _ (q5) ?_
              clear hK' K'
              go_simp
              refine wpAnyH_done (by kernel_rfl) ?_ _
              refine NoPanic.normal ?_
              go_simp
              go_wp2_with fail
              go_meet
              case rel => exact ⟨rfl, q5⟩
          · refine wp_build_D (.tmp 49) rfl D hD (by kernel_rfl) ?_
            have HO69 := Lib.hid (show Below WB.heap.size WB _ ∧ WB.heap.size ≤ WB.heap.size ∧ _ ∧ WB.heap.size ≠ WO59.heap.size ∧ WB.heap.size ≤ WO59.heap.size ∧ _ from ⟨HO59.out.1.alloc HO59.out.1.size (.cells (bV D) 26), HO59.out.2.1, blk_alloc HO59.out.2.2 (.cells (bV D) 26), other_block HO59.out.2.2 (Nat.le_refl _), HO59.out.1.size, blk_new WO59 (.cells (bV D) 26)⟩)
            generalize WO59.alloc (.cells (bV D) 26) = WO69 at *
            refine hK' _ _ (HO69.out.1) ?_
            clear hK' K'
            go_simp
            refine wpAnyH_one (i := 4) (by kernel_rfl) rfl (by kernel_rfl) (fun K' hK' => ?_)
            go_simp
            have HO70 := Lib.hid (show Below WB.heap.size WB _ ∧ WB.heap.size ≤ WB.heap.size ∧ _ ∧ WB.heap.size ≠ WO59.heap.size ∧ WB.heap.size ≤ WO59.heap.size ∧ _ ∧ _ ∧ _ ∧ _ from ⟨HO69.out.1.alloc HO69.out.1.size (.cells #[] 26), HO69.out.2.1, blk_alloc HO69.out.2.2.1 (.cells #[] 26), HO69.out.2.2.2.1, HO69.out.2.2.2.2.1, blk_alloc HO69.out.2.2.2.2.2 (.cells #[] 26), (DgsO.empty WO69).mono (B' := WB.heap.size) HO69.out.1.size, new_ne (blk_lt HO69.out.2.2.1), new_ne (blk_lt HO69.out.2.2.2.2.2)⟩)
            generalize WO69.alloc (.cells #[] 26) = WO70 at *
            refine hK' _ _ (HO70.out.1) ?_
            clear hK' K'
            go_simp
            refine wpAnyH_one (i := 6) (by kernel_rfl) rfl (by kernel_rfl) (fun K' hK' => ?_)
            refine wp_append_D0 (.tmp 46) (.tmp 47) rfl WB.heap.size (WO69.heap.size) (by kernel_rfl) HO70.out.2.2.2.2.2.2.1 pa pb 0 pl pcap P (by kernel_rfl) (HC.out.2.2.1.below (HO70.out.1) (Nat.le_refl _)) hpnc (by omega) HO70.out.1.size ?_
            intro v71 WO71 hO71 hb71 hn71
            have HO71 := Lib.hid (show Below WB.heap.size WB WO71 ∧ _ ∧ _ ∧ _ ∧ _ ∧ _ ∧ _ ∧ _ ∧ _ from ⟨below_after HO70.out.1 hb71 HO70.out.1.size, HO70.out.2.1, blk_below HO70.out.2.2.1 hb71 (blk_lt HO70.out.2.2.1), HO70.out.2.2.2.1, HO70.out.2.2.2.2.1, blk_below HO70.out.2.2.2.2.2.1 hb71 (blk_lt HO70.out.2.2.2.2.2.1), hO71, hn71 _ (blk_lt HO70.out.2.2.1) HO70.out.2.2.2.2.2.2.2.1, hn71 _ (blk_lt HO70.out.2.2.2.2.2.1) HO70.out.2.2.2.2.2.2.2.2⟩)
            clear hO71 hb71 hn71
            refine hK' _ _ (HO71.out.1) ?_
            clear hK' K'
            go_simp
            refine wpAnyH_one (i := 9) (by kernel_rfl) rfl (by kernel_rfl) (fun K' hK' => ?_)
            refine wp_append_D (.tmp 48) (.tmp 50) rfl WB.heap.size v71 P (by kernel_rfl) HO71.out.2.2.2.2.2.2.1 (WO59.heap.size) D hD 1 (by kernel_rfl) _ _ HO71.out.2.2.2.2.2.1 (by rw [HP.out]; omega) HO71.out.1.size ?_
            intro v72 WO72 hO72 hb72 hn72
            have HO72 := Lib.hid (show Below WB.heap.size WB WO72 ∧ _ ∧ _ ∧ _ ∧ _ ∧ _ from ⟨below_trans' HO71.out.1 hb72, HO71.out.2.1, grown_fact hn72 HO71.out.2.2.1 HO71.out.2.2.2.2.2.2.2.1, HO71.out.2.2.2.1, HO71.out.2.2.2.2.1, hO72⟩)
            clear hO72 hb72 hn72
            refine hK' _ _ (HO72.out.1) ?_
            clear hK' K'
            go_simp
            refine wpAnyH_one (i := 10) (by kernel_rfl) rfl (by kernel_rfl) (fun K' hK' => ?_)
            go_simp
            obtain ⟨qa73, qb73, qc73, hv73, hQ73, hqn73, hql73, _, _⟩ := (HO72.out.2.2.2.2.2).s
            have hpl73 : (P ++ [D]).length = pl + 1 := by rw [List.length_append, HP.out]; rfl
            rw [hpl73] at hv73 hQ73 hql73
            subst hv73
            refine (climbE_any D hD (j : Int) (m : Int) qa73 qb73 0 (pl + 1) qc73 (P ++ [D]) WO72 hQ73 hql73 (HC.out.2.2.2.2.below (HO72.out.1))).mono ?_
            rintro e WO73 ⟨hC73, hb73⟩
            have hC73 : e = .returned (.tuple #[.agg (bV zL), .int .i64 1]) := by
              rcases hC73 with ⟨j', k', e1, e2, _, _, h5, _⟩ | ⟨_, h⟩
              · obtain rfl : j' = j := by omega
                obtain rfl : k' = m := by omega
                have := HST.out
                omega
              · exact h
            subst hC73
            clear hQ73 hpl73 hqn73 hql73
            have HO73 := Lib.hid (show Below WB.heap.size WB WO73 ∧ _ ∧ _ ∧ _ ∧ _ ∧ _ from ⟨below_after HO72.out.1 hb73 HO72.out.1.size, HO72.out.2.1, blk_below HO72.out.2.2.1 hb73 (blk_lt HO72.out.2.2.1), HO72.out.2.2.2.1, HO72.out.2.2.2.2.1, (HO72.out.2.2.2.2.2).below hb73 (Nat.le_refl _)⟩)
            clear hb73
            refine hK' _ _ (HO73.out.1) ?_
            clear hK' K'
            go_simp
            refine wpAnyH_from (fuel := 2) 11 3 (fun _ _ _ _ _ h => h) (by kernel_rfl) (by decide) (by kernel_rfl) (HO73.out.1) ?_
            simp only [List.drop_succ_cons, List.drop_zero, List.take_succ_cons, List.take_zero]
            refine wpHeld_cons (.tuple #[.agg (bV zL), .int .i64 1]) (by kernel_rfl) ?_ ?_
            · rintro w' -
              try go_simp
            refine wpHeld_cons (.agg (bV zL)) (by kernel_rfl) ?_ ?_
            · rintro w' -
              try go_simp
            refine wpHeld_cons (.int .i64 1) (by kernel_rfl) ?_ ?_
            · rintro w' -
              try go_simp
            refine wpHeld_nil ?_
            go_simp
            refine wpAnyH_one (i := 15) (by kernel_rfl) rfl (by kernel_rfl) (fun K' hK' => ?_)
            refine wp_store_row 26 (.tmp 11) (.tmp 53) (by kernel_rfl) WB.heap.size (bV zL) (by kernel_rfl) (by kernel_rfl) 26 _ HO73.out.2.2.1 (by kernel_rfl) (by kernel_rfl) (bV_one _) ?_
            have q5 := below_setRow HO73.out.1 HO73.out.2.1 (bV zL)
            generalize WO73.setRow WB.heap.size (bV zL) = WZ at *
            refine hK' _ _ (q5) ?_
            clear hK' K'
            go_simp
            refine wpAnyH_one (i := 16) (by kernel_rfl) rfl (by kernel_rfl) (fun K' hK' => ?_)
            go_simp
            refine hK' _ _ (q5) ?_
            clear hK' K'
            go_simp
            refine wpAnyH_done (by kernel_rfl) ?_ _
            refine NoPanic.normal ?_
            go_simp
            go_wp2_with fail
            go_meet
            case rel => exact ⟨rfl, q5⟩
      case rest =>
        obtain ⟨rfl, hbx⟩ := hcut
        have HZ := Lib.hid (show wc.heap[b9]? = _ ∧ wc.heap[b4]? = _ ∧ Below W2.heap.size W2 wc from ⟨blk_below HC.out.2.1 hbx (blk_lt HC.out.2.1), blk_below HE.out.1 (HC.out.2.2.2.1.trans (hbx.mono HC.out.2.2.2.1.size)) (blk_lt HE.out.1), HC.out.2.2.2.1.trans (hbx.mono HC.out.2.2.2.1.size)⟩)
        clear hbx
        have k5 : ¬ (5 : Int) < (pl : Int) := by omega
        have ke := fun (W : World) => run_eq_D (dgL sT) (dgL sT) (dgL_len _) (dgL_len _) W
        go_wp2_with (with_reducible refine held (o := ⟨some 62, _, _, _, _, _⟩) ?_)
        unfold Held
        refine wpList_load_open (by kernel_rfl) (.tmp 9) rfl b9 (by kernel_rfl) (dgL sT) (dgL_len _) HZ.out.1 ?_
        refine wpList_load_open (by kernel_rfl) (.tmp 4) rfl b4 (by kernel_rfl) (dgL sT) (dgL_len _) HZ.out.2.1 ?_
        go_wp2_with fail
        go_roundw
        case rel => exact ⟨j + 1, hjm, by go_num, HZ.out.2.2⟩
        case measure => simp [intOf]; omega
    · obtain rfl : j = m := by omega
      have j1 : ¬ (j : Int) < (j : Int) := by omega
      go_wp2
      go_ret
      exact ⟨rfl, HE.out.2.2.1.trans (hB.mono HE.out.2.2.1.size)⟩
end Go.Proofs.YthbjjfblapfjdaaDoor
