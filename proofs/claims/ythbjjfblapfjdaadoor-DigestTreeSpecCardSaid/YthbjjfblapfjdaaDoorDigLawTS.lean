/- DigestTreeSpec (layer 2). -/
import Derived.Test.YthbjjfblapfjdaaDoorDigFour
import Derived.Test.YthbjjfblapfjdaaDoorDigLawP
import Derived.Deep.CutRange
namespace Go.Proofs.YthbjjfblapfjdaaDoor
open Go.ChangeShapes Go.WideShapes Go.ChangeAt Go.RowKit
noncomputable section
open Classical in
/-- What Path answers, and which error. -/
def pthL (l : List (List Int)) (n : Nat) (i : Int) : List (List Int) := if 0 ≤ i ∧ i < n then pathL l i.toNat else []
open Classical in
def pthE (n : Nat) (i : Int) : Int := if 0 ≤ i ∧ i < n then 0 else 1
theorem PathR.uni {l : List (List Int)} {n : Nat} {i : Int} {w : World} {e : Ending} {w' : World} (h : PathR l n i w e w') :
    ∃ a b c, e = .returned (.tuple #[.slice a (pthL l n i).length c, .int .i64 (pthE n i)]) ∧ DigR w' a b 0 (pthL l n i).length (pthL l n i) ∧ (a = none → c = 0) ∧ (pthL l n i).length ≤ c ∧ c ≤ maxLen := by
  rcases h with ⟨j, rfl, hj, v, rfl, hO⟩ | ⟨hb, rfl⟩
  · have hc : 0 ≤ (j : Int) ∧ (j : Int) < n := by omega
    have e1 : pthL l n j = pathL l j := by unfold pthL; rw [if_pos hc]; rfl
    have e2 : pthE n j = 0 := by unfold pthE; rw [if_pos hc]
    obtain ⟨a, b, c, rfl, h1, h2, h3, h4, _⟩ := hO.s
    rw [e1, e2]
    exact ⟨a, b, c, rfl, h1, h2, h3, h4⟩
  · have hc : ¬ (0 ≤ i ∧ i < n) := by omega
    have e1 : pthL l n i = [] := by unfold pthL; rw [if_neg hc]
    have e2 : pthE n i = 1 := by unfold pthE; rw [if_neg hc]
    rw [e1, e2]
    exact ⟨none, 0, 0, rfl, DigR.none _, fun _ => rfl, Nat.le_refl _, by simp [maxLen]⟩
theorem pthL_len {l : List (List Int)} {n : Nat} (i : Int) (hl : l.length = n) : (pthL l n i).length ≤ n := by
  unfold pthL
  split
  · rename_i h
    rw [pathL_len n i.toNat l hl (by omega)]
    exact Nat.le_of_lt (stepsN_lt n _ (by omega))
  · simp
open Classical in
def ansL (d : List Int) (i n : Int) (m : Nat) (P : List (List Int)) : List Int := if ClimbOk i n m then dgL (climbS d i.toNat n.toNat P) else zL
open Classical in
def ansE (i n : Int) (m : Nat) : Int := if ClimbOk i n m then 0 else 1
theorem ansL_len (d : List Int) (i n : Int) (m : Nat) (P : List (List Int)) : (ansL d i n m P).length = 32 := by
  unfold ansL
  split
  · exact dgL_len _
  · rfl
theorem ClimbR.uni {d : List Int} {i n : Int} {m : Nat} {P : List (List Int)} {e : Ending} (h : ClimbR d i n m P e) : e = .returned (.tuple #[.agg (bV (ansL d i n m P)), .int .i64 (ansE i n m)]) := by
  rcases h with ⟨j, k, rfl, rfl, h1, h2, h3, rfl⟩ | ⟨h, rfl⟩
  · have hc : ClimbOk (j : Int) (k : Int) m := ⟨j, k, rfl, rfl, h1, h2, h3⟩
    unfold ansL ansE
    rw [if_pos hc, if_pos hc]
    rfl
  · unfold ansL ansE
    rw [if_neg h, if_neg h]
end
/-- Three paths in memory. -/
def ThreeP (w : World) (g : Nat) : Prop := ∀ t, t < 3 → ∃ a b c R, w.cell? ⟨g, t, none⟩ = some (.slice a R.length c) ∧ DigR w a b 0 R.length R ∧ R.length ≤ c ∧ g < w.heap.size
set_option maxRecDepth 100000 in
set_option maxHeartbeats 40000000 in
theorem treespec_walk (a : Option Addr) (b off n cap : Nat) (l : List Int) (A N : Int) (F : List Int) (hF : F.length = 32) (w : World) (hK : Keys w) (hR : RowB w a b off n l) (hn : n ≤ 9223372036854775807) :
    Calls Tryd.prog 4 #[.slice a n cap, .int .i64 A, .int .i64 N, .agg (bV F)] w fun e w' => e = .returned (.bool true) ∧ Below w.heap.size w w' := by
  have HR0 := Lib.hid (show _ ∧ _ from ⟨hR, hK⟩)
  clear hR hK
  go_enter Tryd.func4, Tryd.ntmps4
  go_upto_region 1 with fail
  have hb := blk_new w (.cells (bV F) 26)
  have hB : Below w.heap.size w (w.alloc (.cells (bV F) 26)) := (Below.refl _ _).alloc (Nat.le_refl _) _
  have HA := Lib.hid (show _ ∧ _ ∧ Keys _ from ⟨hb, hB, HR0.out.2.below hB⟩)
  clear hb hB
  generalize w.alloc (.cells (bV F) 26) = WA at *
  go_wp2_with (go_at_call 11; refine (sane_any _ HA.out.2.2).mono ?_; rintro e WS ⟨rfl, hbS⟩)
  have hbw := HA.out.2.1.trans (hbS.mono HA.out.2.1.size)
  have HW := Lib.hid (show _ ∧ Below w.heap.size w WS ∧ Keys WS from ⟨blk_below HA.out.1 hbS (blk_lt HA.out.1), hbw, HA.out.2.2.below hbS⟩)
  clear hbw hbS HA
  go_wp2_with fail
  refine (of_any a b off n cap l _ (HR0.out.1.below HW.out.2.1 (Nat.le_refl _)) hn).mono ?_
  rintro e W1 ⟨v, rfl, hO, hb1⟩
  obtain ⟨la, lb, lcap, rfl, hDg, hlnc, hlc, hlm, hla⟩ := hO.s
  obtain ⟨m, hm⟩ : ∃ m, m = min n 24 := ⟨_, rfl⟩
  rw [← hm] at hDg hlc ⊢
  obtain ⟨L, hL⟩ : ∃ L, L = ofL l m := ⟨_, rfl⟩
  rw [← hL] at hDg hlc ⊢
  have hLl : L.length = m := by rw [hL, ofL_len]
  rw [hLl] at hDg hlc ⊢
  have hm24 : m ≤ 24 := by omega
  have hbw := HW.out.2.1.trans (hb1.mono HW.out.2.1.size)
  have HE := Lib.hid (show W1.heap[w.heap.size]? = _ ∧ DigR W1 la lb 0 m L ∧ Below w.heap.size w W1 ∧ Keys W1 from ⟨blk_below HW.out.1 hb1 (blk_lt HW.out.1), hDg, hbw, HW.out.2.2.below hb1⟩)
  have HL := Lib.hid hLl
  clear hDg hb1 hO hL hm hLl hla hbw HW
  unfold maxLen at hlm
  obtain ⟨sT, hsT⟩ : ∃ s, s = treeS L := ⟨_, rfl⟩
  have HT := Lib.hid hsT
  clear hsT
  go_wp2_with fail
  refine (tree_any m (by omega) la lb 0 lcap L W1 HE.out.2.1 hlc HE.out.2.2.2).mono ?_
  rintro e WB1 ⟨rfl, hb1⟩
  rw [bV_dg, ← HT.out]
  go_wp2_with fail
  refine (rtree_any m (by omega) la lb 0 lcap L WB1 (HE.out.2.1.below hb1 (Nat.le_refl _)) hlc).mono ?_
  rintro e WB2 ⟨rfl, hb2⟩
  rw [bV_dg, ← HT.out]
  have hb3 := hb1.trans (hb2.mono hb1.size)
  have HF := Lib.hid (show WB2.heap[w.heap.size]? = _ ∧ DigR WB2 la lb 0 m L ∧ Below w.heap.size w WB2 ∧ Keys WB2 from ⟨blk_below HE.out.1 hb3 (blk_lt HE.out.1), HE.out.2.1.below hb3 (Nat.le_refl _), HE.out.2.2.1.trans (hb3.mono HE.out.2.2.1.size), HE.out.2.2.2.below hb3⟩)
  clear hb1 hb2 hb3 HE
  have ke := fun (W : World) => run_eq_D (dgL sT) (dgL sT) (dgL_len _) (dgL_len _) W
  go_upto_region 7 with fail
  clear ke
  have hcell : ∀ t, t < 2 → ∃ I : Int, (WB2.alloc (.cells #[.int .i64 A, .int .i64 (bits .and .i64 A 15)] 3)).cell? ⟨WB2.heap.size, t, none⟩ = some (.int .i64 I) := fun t ht => by
    have hb := blk_new WB2 (.cells #[.int .i64 A, .int .i64 (bits .and .i64 A 15)] 3)
    rcases (by omega : t = 0 ∨ t = 1) with rfl | rfl
    · exact ⟨_, blk_cell hb 0⟩
    · exact ⟨_, blk_cell hb 1⟩
  have hba := (Below.refl WB2.heap.size WB2).alloc (Nat.le_refl _) (.cells #[.int .i64 A, .int .i64 (bits .and .i64 A 15)] 3)
  have hql : WB2.heap.size < (WB2.alloc (.cells #[.int .i64 A, .int .i64 (bits .and .i64 A 15)] 3)).heap.size := by simp
  have H2 := Lib.hid (show _ ∧ DigR _ la lb 0 m L ∧ Below w.heap.size w _ ∧ Keys _ from ⟨blk_below HF.out.1 hba (blk_lt HF.out.1), HF.out.2.1.below hba (Nat.le_refl _), HF.out.2.2.1.trans (hba.mono HF.out.2.2.1.size), HF.out.2.2.2.below hba⟩)
  have HI := Lib.hid hcell
  clear hcell hba HF
  generalize WB2.alloc (.cells #[.int .i64 A, .int .i64 (bits .and .i64 A 15)] 3) = W2 at *
  generalize WB2.heap.size = g1 at *
  go_loopw [38] (fun v wr => ∃ u : Nat, u ≤ 2 ∧ v = .int .i64 u ∧ Below W2.heap.size W2 wr) (fun v _ => 2 - (intOf v).toNat)
  case atStart => exact ⟨0, Nat.zero_le _, rfl, Below.refl _ _⟩
  case round =>
    obtain ⟨u, hu, rfl, hB⟩ := hrel
    by_cases hu2 : u < 2
    · obtain ⟨I, hc⟩ := HI.out u hu2
      have k1 : (u : Int) < 2 := by omega
      have k2 : ¬ (u : Int) < 0 := by omega
      have k3 : IntKind.i64.wrap ((u : Int) + 1) = ((u + 1 : Nat) : Int) := (wrap_id (by omega)).trans (by omega)
      have hc' := (hB.cell (p := ⟨g1, u, none⟩) hql).trans hc
      have HX := Lib.hid hB
      clear hB hc
      go_wp2_with fail
      refine (path_any la lb 0 m lcap L I wr (H2.out.2.1.below HX.out (Nat.le_refl _)) (by omega) hlc (H2.out.2.2.2.below HX.out)).mono ?_
      rintro e V1 ⟨hP, hv1⟩
      obtain ⟨pa, pb, pc, rfl, hPr, hpn, hpc, hpm⟩ := hP.uni
      have HX1 := Lib.hid (show Below W2.heap.size W2 V1 from HX.out.trans (hv1.mono HX.out.size))
      go_wp2_with fail
      refine (rpathE_any la lb 0 m lcap L I V1 (H2.out.2.1.below HX1.out (Nat.le_refl _)) (by omega) hlc).mono ?_
      rintro e V2 ⟨hQ, hv2⟩
      obtain ⟨qa, qb, qc, rfl, hQr, hqn, hqc, hqm⟩ := hQ.uni
      have hql24 := pthL_len (l := L) I HL.out
      obtain ⟨Q, hQe⟩ : ∃ Q, Q = pthL L m I := ⟨_, rfl⟩
      rw [← hQe] at hPr hpc hQr hqc hql24 ⊢
      obtain ⟨x, hx⟩ : ∃ x, x = pthE m I := ⟨_, rfl⟩
      rw [← hx]
      have HX2 := Lib.hid (show Below W2.heap.size W2 V2 ∧ DigR V2 pa pb 0 Q.length Q ∧ DigR V2 qa qb 0 Q.length Q from ⟨HX1.out.trans (hv2.mono HX1.out.size), hPr.below hv2 (Nat.le_refl _), hQr⟩)
      clear hP hQ hv1 hv2 hPr hQr hQe hx HX HX1 hc'
      go_wp2_with fail
      refine (same_any pa qa pb 0 Q.length pc qb 0 Q.length qc Q Q V2 HX2.out.2.1 HX2.out.2.2 (by omega)).mono ?_
      rintro e V3 ⟨rfl, hv3⟩
      rw [decide_eq_true rfl]
      have HX3 := Lib.hid (show Below W2.heap.size W2 V3 ∧ DigR V3 qa qb 0 Q.length Q from ⟨HX2.out.1.trans (hv3.mono HX2.out.1.size), HX2.out.2.2.below hv3 (Nat.le_refl _)⟩)
      clear hv3 HX2
      go_upto_region 14 with fail
      have hcell2 : ∀ t, t < 2 → ∃ M : Int, (V3.alloc (.cells #[.int .i64 N, .int .i64 (m : Int)] 3)).cell? ⟨V3.heap.size, t, none⟩ = some (.int .i64 M) := fun t ht => by
        have hb := blk_new V3 (.cells #[.int .i64 N, .int .i64 (m : Int)] 3)
        rcases (by omega : t = 0 ∨ t = 1) with rfl | rfl
        · exact ⟨_, blk_cell hb 0⟩
        · exact ⟨_, blk_cell hb 1⟩
      have hba := (Below.refl V3.heap.size V3).alloc (Nat.le_refl _) (.cells #[.int .i64 N, .int .i64 (m : Int)] 3)
      have hql2 : V3.heap.size < (V3.alloc (.cells #[.int .i64 N, .int .i64 (m : Int)] 3)).heap.size := by simp
      have hbz := HX3.out.1.trans (hba.mono HX3.out.1.size)
      have H4 := Lib.hid (show Below W2.heap.size W2 _ ∧ DigR _ qa qb 0 Q.length Q from ⟨hbz, HX3.out.2.below hba (Nat.le_refl _)⟩)
      have HM := Lib.hid hcell2
      clear hcell2 hba hbz HX3
      generalize V3.alloc (.cells #[.int .i64 N, .int .i64 (m : Int)] 3) = W4 at *
      generalize V3.heap.size = g2 at *
      generalize hW0 : wr = WR0 at *
      clear hW0
      go_loopw [68] (fun v wr => ∃ s : Nat, s ≤ 2 ∧ v = .int .i64 s ∧ Below W4.heap.size W4 wr) (fun v _ => 2 - (intOf v).toNat)
      case atStart => exact ⟨0, Nat.zero_le _, rfl, Below.refl _ _⟩
      case round =>
        obtain ⟨s, hs, rfl, hB⟩ := hrel
        by_cases hs2 : s < 2
        · obtain ⟨M, hc⟩ := HM.out s hs2
          have k4 : (s : Int) < 2 := by omega
          have k5 : ¬ (s : Int) < 0 := by omega
          have k6 : IntKind.i64.wrap ((s : Int) + 1) = ((s + 1 : Nat) : Int) := (wrap_id (by omega)).trans (by omega)
          have hc' := (hB.cell (p := ⟨g2, s, none⟩) hql2).trans hc
          generalize hWB : wr = WB at *
          clear hWB
          have HB := Lib.hid hB
          have hb2 := H4.out.1.trans (hB.mono H4.out.1.size)
          have HC := Lib.hid (show WB.heap[w.heap.size]? = _ ∧ DigR WB qa qb 0 Q.length Q ∧ Keys WB from ⟨blk_below H2.out.1 hb2 (blk_lt H2.out.1), H4.out.2.below hB (Nat.le_refl _), H2.out.2.2.2.below hb2⟩)
          clear hB hc hb2
          obtain ⟨h2, hh2⟩ : ∃ h2, h2 = Q.length / 2 := ⟨_, rfl⟩
          have d1 : (Q.length : Int) / 2 = (h2 : Int) := by omega
          have d2 : IntKind.i64.wrap (h2 : Int) = (h2 : Int) := wrap_id (by omega)
          have d3 : ¬ qc < h2 := by omega
          have d4 : h2 ≤ qc := by omega
          have d5 : h2 ≤ Q.length := by omega
          clear hh2
          go_upto_region 16 with fail
          go_cut [84, 85, 86] from 69 to 115 (fun s84 s85 s86 wx => ∃ gz, s84 = .slice (some ⟨gz, 0, none⟩) 3 3 ∧ s85 = .int .i64 3 ∧ s86 = .int .i64 0 ∧ ThreeP wx gz ∧ Below WB.heap.size WB wx)
          case first =>
            refine wp_region_from 0 1 (fun w' => Below WB.heap.size WB w') (by kernel_rfl) (by kernel_rfl) (by decide) (by kernel_rfl) ((Below.refl _ _).drew) ?_
            simp only [List.drop_zero, List.take_succ_cons, List.take_zero]
            refine wpHeld_cons (.slice qa Q.length qc) (by kernel_rfl) ?_ ?_
            · rintro w' -
              try go_simp
            refine wpHeld_nil ?_
            refine wpAnyH_from (fuel := 13) 2 1 (fun _ _ _ _ _ h => h) (by kernel_rfl) (by decide) (by kernel_rfl) ((Below.refl _ _).drew) ?_
            simp only [List.drop_succ_cons, List.drop_zero, List.take_succ_cons, List.take_zero]
            refine wpHeld_cons (.slice qa Q.length qc) (by kernel_rfl) ?_ ?_
            · rintro w' -
              try go_simp
            refine wpHeld_nil ?_
            refine wpAnyH_from (fuel := 12) 4 1 (fun _ _ _ _ _ h => h) (by kernel_rfl) (by decide) (by kernel_rfl) ((Below.refl _ _).drew) ?_
            simp only [List.drop_succ_cons, List.drop_zero, List.take_succ_cons, List.take_zero]
            refine wpHeld_load (.tmp 7) (by kernel_rfl) (by kernel_rfl) (w.heap.size) (0) (by kernel_rfl) (F) hF (fun w' hS => (RowB.of_bV hF (blk_below HC.out.1 hS (blk_lt HC.out.1))).range) ?_
            refine wpHeld_nil ?_
            refine wpAnyH_from (fuel := 7) 7 5 (fun _ _ _ _ _ h => h) (by kernel_rfl) (by decide) (by kernel_rfl) ((Below.refl _ _).drew) ?_
            simp only [List.drop_succ_cons, List.drop_zero, List.take_succ_cons, List.take_zero]
            refine wpHeld_cons (.slice qa Q.length qc) (by kernel_rfl) ?_ ?_
            · rintro w' -
              try go_simp
            refine wpHeld_cons (.slice qa Q.length qc) (by kernel_rfl) ?_ ?_
            · rintro w' -
              try go_simp
            refine wpHeld_cons (.int .i64 Q.length) (by kernel_rfl) ?_ ?_
            · rintro w' -
              try go_simp
            refine wpHeld_cons (.int .i64 h2) (by kernel_rfl) ?_ ?_
            · rintro w' -
              try go_simp
            refine wpHeld_cons (.slice qa h2 qc) (by kernel_rfl) ?_ ?_
            · rintro w' -
              try go_simp
            refine wpHeld_nil ?_
            refine wpAnyH_from (fuel := 6) 14 1 (fun _ _ _ _ _ h => h) (by kernel_rfl) (by decide) (by kernel_rfl) ((Below.refl _ _).drew) ?_
            simp only [List.drop_succ_cons, List.drop_zero, List.take_succ_cons, List.take_zero]
            refine wpHeld_cons (.int .i64 0) (by kernel_rfl) ?_ ?_
            · rintro w' -
              try go_simp
            refine wpHeld_nil ?_
            go_simp
            have H0 := Lib.hid (show Below WB.heap.size WB WB.drew from (Below.refl _ _).drew)
            refine wpAnyH_two (i := 1) (j := 5) (by kernel_rfl) rfl rfl (by kernel_rfl) (by kernel_rfl) (fun K' hK' => ?_) (fun K' hK' => ?_)
            · go_simp
              have HO1 := Lib.hid (show Below WB.heap.size WB _ ∧ _ from ⟨((Below.refl WB.heap.size WB).alloc (Nat.le_refl _) (.cells #[] 26)).drew, ((DgsO.empty WB).below (Below.refl _ _).drew (Nat.le_refl _))⟩)
              generalize (WB.alloc (.cells #[] 26)).drew = WO1 at *
              refine hK' _ _ (HO1.out.1) ?_
              clear hK' K'
              go_simp
              refine wpAnyH_two (i := 3) (j := 5) (by kernel_rfl) rfl rfl (by kernel_rfl) (by kernel_rfl) (fun K' hK' => ?_) (fun K' hK' => ?_)
              · refine wp_append_D0 (.tmp 73) (.tmp 74) rfl WB.heap.size (WB.heap.size) (by kernel_rfl) HO1.out.2 qa qb 0 Q.length qc Q (by kernel_rfl) (HC.out.2.1.below (HO1.out.1) (Nat.le_refl _)) hqn (by omega) HO1.out.1.size ?_
                intro v2 WO2 hO2 hb2 hn2
                have HO2 := Lib.hid (show Below WB.heap.size WB WO2 ∧ _ from ⟨below_after HO1.out.1 hb2 HO1.out.1.size, hO2⟩)
                clear hO2 hb2 hn2
                refine hK' _ _ (HO2.out.1) ?_
                clear hK' K'
                go_simp
                refine wpAnyH_one (i := 5) (by kernel_rfl) rfl (by kernel_rfl) (fun K' hK' => ?_)
                refine wp_build_D (.tmp 76) rfl F hF (by kernel_rfl) ?_
                have HO3 := Lib.hid (show Below WB.heap.size WB _ ∧ _ ∧ WB.heap.size ≤ WO2.heap.size ∧ _ ∧ _ from ⟨HO2.out.1.alloc HO2.out.1.size (.cells (bV F) 26), (HO2.out.2).alloc (.cells (bV F) 26), HO2.out.1.size, blk_new WO2 (.cells (bV F) 26), own_ne_new HO2.out.2⟩)
                generalize WO2.alloc (.cells (bV F) 26) = WO3 at *
                refine hK' _ _ (HO3.out.1) ?_
                clear hK' K'
                go_simp
                refine wpAnyH_one (i := 6) (by kernel_rfl) rfl (by kernel_rfl) (fun K' hK' => ?_)
                refine wp_append_D (.tmp 75) (.tmp 77) rfl WB.heap.size v2 Q (by kernel_rfl) HO3.out.2.1 (WO2.heap.size) F hF 1 (by kernel_rfl) _ _ HO3.out.2.2.2.1 (by omega) HO3.out.1.size ?_
                intro v4 WO4 hO4 hb4 hn4
                have HO4 := Lib.hid (show Below WB.heap.size WB WO4 ∧ _ ∧ _ from ⟨below_trans' HO3.out.1 hb4, hO4, HO3.out.2.2.1⟩)
                clear hO4 hb4 hn4
                refine hK' _ _ (HO4.out.1) ?_
                clear hK' K'
                go_simp
                obtain ⟨ra, rb, rc, hrv, hrR, hrn, hrc, _, _⟩ := (HO4.out.2.1).s
                subst hrv
                refine wpAnyH_one (i := 12) (by kernel_rfl) rfl (by kernel_rfl) (fun K' hK' => ?_)
                go_simp
                have hlen : (Q ++ [F]).length = Q.length + 1 := by rw [List.length_append]; rfl
                have hnew := blk_new WO4 (.cells #[.slice qa Q.length qc, .slice ra (Q.length + 1) rc, .slice qa h2 qc] 30)
                have hbn := (Below.refl WO4.heap.size WO4).alloc (Nat.le_refl _) (.cells #[.slice qa Q.length qc, .slice ra (Q.length + 1) rc, .slice qa h2 qc] 30)
                have hbn2 := HO4.out.1.trans (hbn.mono HO4.out.1.size)
                have hQW := HC.out.2.1.below hbn2 (Nat.le_refl _)
                have HM := Lib.hid (show ThreeP (WO4.alloc (.cells #[.slice qa Q.length qc, .slice ra (Q.length + 1) rc, .slice qa h2 qc] 30)) WO4.heap.size ∧ Below WB.heap.size WB _ from ⟨fun t ht => by
                  rcases (by omega : t = 0 ∨ t = 1 ∨ t = 2) with rfl | rfl | rfl
                  · exact ⟨qa, qb, qc, Q, blk_cell hnew 0, hQW, hqc, blk_lt hnew⟩
                  · exact ⟨ra, rb, rc, Q ++ [F], by rw [hlen]; exact blk_cell hnew 1, hrR.below hbn (Nat.le_refl _), hrc, blk_lt hnew⟩
                  · have e2 : (Q.take h2).length = h2 := by rw [List.length_take]; omega
                    refine ⟨qa, qb, qc, Q.take h2, ?_, ?_, ?_, blk_lt hnew⟩
                    · rw [e2]; exact blk_cell hnew 2
                    · rw [e2]; exact hQW.take0 (by omega)
                    · rw [e2]; omega, hbn2⟩)
                clear hnew hbn hQW hrR
                generalize WO4.alloc (.cells #[.slice qa Q.length qc, .slice ra (Q.length + 1) rc, .slice qa h2 qc] 30) = WZ at *
                generalize WO4.heap.size = gz at *
                refine hK' _ _ (hbn2) ?_
                clear hK' K'
                go_simp
                refine wpAnyH_from (fuel := 0) 13 1 (fun _ _ _ _ _ h => h) (by kernel_rfl) (by decide) (by kernel_rfl) (hbn2) ?_
                simp only [List.drop_succ_cons, List.drop_zero, List.take_succ_cons, List.take_zero]
                refine wpHeld_cons (.int .i64 3) (by kernel_rfl) ?_ ?_
                · rintro w' -
                  try go_simp
                refine wpHeld_nil ?_
                go_simp
                refine wpAnyH_done (by kernel_rfl) ?_ _
                refine NoPanic.normal ?_
                go_simp
                go_wp2_with fail
                go_meet
                case rel => exact ⟨gz, rfl, rfl, rfl, HM.out⟩
              · refine wp_build_D (.tmp 76) rfl F hF (by kernel_rfl) ?_
                have HO5 := Lib.hid (show Below WB.heap.size WB _ ∧ _ ∧ WB.heap.size ≤ WO1.heap.size ∧ _ ∧ _ from ⟨HO1.out.1.alloc HO1.out.1.size (.cells (bV F) 26), (HO1.out.2).alloc (.cells (bV F) 26), HO1.out.1.size, blk_new WO1 (.cells (bV F) 26), own_ne_new HO1.out.2⟩)
                generalize WO1.alloc (.cells (bV F) 26) = WO5 at *
                refine hK' _ _ (HO5.out.1) ?_
                clear hK' K'
                go_simp
                refine wpAnyH_one (i := 3) (by kernel_rfl) rfl (by kernel_rfl) (fun K' hK' => ?_)
                refine wp_append_D0 (.tmp 73) (.tmp 74) rfl WB.heap.size (WB.heap.size) (by kernel_rfl) HO5.out.2.1 qa qb 0 Q.length qc Q (by kernel_rfl) (HC.out.2.1.below (HO5.out.1) (Nat.le_refl _)) hqn (by omega) HO5.out.1.size ?_
                intro v6 WO6 hO6 hb6 hn6
                have HO6 := Lib.hid (show Below WB.heap.size WB WO6 ∧ _ ∧ _ ∧ _ ∧ _ from ⟨below_after HO5.out.1 hb6 HO5.out.1.size, hO6, HO5.out.2.2.1, blk_below HO5.out.2.2.2.1 hb6 (blk_lt HO5.out.2.2.2.1), hn6 _ (blk_lt HO5.out.2.2.2.1) HO5.out.2.2.2.2⟩)
                clear hO6 hb6 hn6
                refine hK' _ _ (HO6.out.1) ?_
                clear hK' K'
                go_simp
                refine wpAnyH_one (i := 6) (by kernel_rfl) rfl (by kernel_rfl) (fun K' hK' => ?_)
                refine wp_append_D (.tmp 75) (.tmp 77) rfl WB.heap.size v6 Q (by kernel_rfl) HO6.out.2.1 (WO1.heap.size) F hF 1 (by kernel_rfl) _ _ HO6.out.2.2.2.1 (by omega) HO6.out.1.size ?_
                intro v7 WO7 hO7 hb7 hn7
                have HO7 := Lib.hid (show Below WB.heap.size WB WO7 ∧ _ ∧ _ from ⟨below_trans' HO6.out.1 hb7, hO7, HO6.out.2.2.1⟩)
                clear hO7 hb7 hn7
                refine hK' _ _ (HO7.out.1) ?_
                clear hK' K'
                go_simp
                obtain ⟨ra, rb, rc, hrv, hrR, hrn, hrc, _, _⟩ := (HO7.out.2.1).s
                subst hrv
                refine wpAnyH_one (i := 12) (by kernel_rfl) rfl (by kernel_rfl) (fun K' hK' => ?_)
                go_simp
                have hlen : (Q ++ [F]).length = Q.length + 1 := by rw [List.length_append]; rfl
                have hnew := blk_new WO7 (.cells #[.slice qa Q.length qc, .slice ra (Q.length + 1) rc, .slice qa h2 qc] 30)
                have hbn := (Below.refl WO7.heap.size WO7).alloc (Nat.le_refl _) (.cells #[.slice qa Q.length qc, .slice ra (Q.length + 1) rc, .slice qa h2 qc] 30)
                have hbn2 := HO7.out.1.trans (hbn.mono HO7.out.1.size)
                have hQW := HC.out.2.1.below hbn2 (Nat.le_refl _)
                have HM := Lib.hid (show ThreeP (WO7.alloc (.cells #[.slice qa Q.length qc, .slice ra (Q.length + 1) rc, .slice qa h2 qc] 30)) WO7.heap.size ∧ Below WB.heap.size WB _ from ⟨fun t ht => by
                  rcases (by omega : t = 0 ∨ t = 1 ∨ t = 2) with rfl | rfl | rfl
                  · exact ⟨qa, qb, qc, Q, blk_cell hnew 0, hQW, hqc, blk_lt hnew⟩
                  · exact ⟨ra, rb, rc, Q ++ [F], by rw [hlen]; exact blk_cell hnew 1, hrR.below hbn (Nat.le_refl _), hrc, blk_lt hnew⟩
                  · have e2 : (Q.take h2).length = h2 := by rw [List.length_take]; omega
                    refine ⟨qa, qb, qc, Q.take h2, ?_, ?_, ?_, blk_lt hnew⟩
                    · rw [e2]; exact blk_cell hnew 2
                    · rw [e2]; exact hQW.take0 (by omega)
                    · rw [e2]; omega, hbn2⟩)
                clear hnew hbn hQW hrR
                generalize WO7.alloc (.cells #[.slice qa Q.length qc, .slice ra (Q.length + 1) rc, .slice qa h2 qc] 30) = WZ at *
                generalize WO7.heap.size = gz at *
                refine hK' _ _ (hbn2) ?_
                clear hK' K'
                go_simp
                refine wpAnyH_from (fuel := 0) 13 1 (fun _ _ _ _ _ h => h) (by kernel_rfl) (by decide) (by kernel_rfl) (hbn2) ?_
                simp only [List.drop_succ_cons, List.drop_zero, List.take_succ_cons, List.take_zero]
                refine wpHeld_cons (.int .i64 3) (by kernel_rfl) ?_ ?_
                · rintro w' -
                  try go_simp
                refine wpHeld_nil ?_
                go_simp
                refine wpAnyH_done (by kernel_rfl) ?_ _
                refine NoPanic.normal ?_
                go_simp
                go_wp2_with fail
                go_meet
                case rel => exact ⟨gz, rfl, rfl, rfl, HM.out⟩
            · refine wp_build_D (.tmp 76) rfl F hF (by kernel_rfl) ?_
              rw [show WB.drew.alloc (.cells (bV F) 26) = (WB.alloc (.cells (bV F) 26)).drew from rfl]
              have HO8 := Lib.hid (show Below WB.heap.size WB _ ∧ WB.heap.size ≤ WB.heap.size ∧ _ from ⟨((Below.refl WB.heap.size WB).alloc (Nat.le_refl _) (.cells (bV F) 26)).drew, Nat.le_refl _, blk_drew (blk_new WB (.cells (bV F) 26))⟩)
              generalize (WB.alloc (.cells (bV F) 26)).drew = WO8 at *
              refine hK' _ _ (HO8.out.1) ?_
              clear hK' K'
              go_simp
              refine wpAnyH_one (i := 1) (by kernel_rfl) rfl (by kernel_rfl) (fun K' hK' => ?_)
              go_simp
              have HO9 := Lib.hid (show Below WB.heap.size WB _ ∧ WB.heap.size ≤ WB.heap.size ∧ _ ∧ _ ∧ _ from ⟨HO8.out.1.alloc HO8.out.1.size (.cells #[] 26), HO8.out.2.1, blk_alloc HO8.out.2.2 (.cells #[] 26), (DgsO.empty WO8).mono (B' := WB.heap.size) HO8.out.1.size, new_ne (blk_lt HO8.out.2.2)⟩)
              generalize WO8.alloc (.cells #[] 26) = WO9 at *
              refine hK' _ _ (HO9.out.1) ?_
              clear hK' K'
              go_simp
              refine wpAnyH_one (i := 3) (by kernel_rfl) rfl (by kernel_rfl) (fun K' hK' => ?_)
              refine wp_append_D0 (.tmp 73) (.tmp 74) rfl WB.heap.size (WO8.heap.size) (by kernel_rfl) HO9.out.2.2.2.1 qa qb 0 Q.length qc Q (by kernel_rfl) (HC.out.2.1.below (HO9.out.1) (Nat.le_refl _)) hqn (by omega) HO9.out.1.size ?_
              intro v10 WO10 hO10 hb10 hn10
              have HO10 := Lib.hid (show Below WB.heap.size WB WO10 ∧ _ ∧ _ ∧ _ ∧ _ from ⟨below_after HO9.out.1 hb10 HO9.out.1.size, HO9.out.2.1, blk_below HO9.out.2.2.1 hb10 (blk_lt HO9.out.2.2.1), hO10, hn10 _ (blk_lt HO9.out.2.2.1) HO9.out.2.2.2.2⟩)
              clear hO10 hb10 hn10
              refine hK' _ _ (HO10.out.1) ?_
              clear hK' K'
              go_simp
              refine wpAnyH_one (i := 6) (by kernel_rfl) rfl (by kernel_rfl) (fun K' hK' => ?_)
              refine wp_append_D (.tmp 75) (.tmp 77) rfl WB.heap.size v10 Q (by kernel_rfl) HO10.out.2.2.2.1 (WB.heap.size) F hF 1 (by kernel_rfl) _ _ HO10.out.2.2.1 (by omega) HO10.out.1.size ?_
              intro v11 WO11 hO11 hb11 hn11
              have HO11 := Lib.hid (show Below WB.heap.size WB WO11 ∧ _ ∧ _ from ⟨below_trans' HO10.out.1 hb11, HO10.out.2.1, hO11⟩)
              clear hO11 hb11 hn11
              refine hK' _ _ (HO11.out.1) ?_
              clear hK' K'
              go_simp
              obtain ⟨ra, rb, rc, hrv, hrR, hrn, hrc, _, _⟩ := (HO11.out.2.2).s
              subst hrv
              refine wpAnyH_one (i := 12) (by kernel_rfl) rfl (by kernel_rfl) (fun K' hK' => ?_)
              go_simp
              have hlen : (Q ++ [F]).length = Q.length + 1 := by rw [List.length_append]; rfl
              have hnew := blk_new WO11 (.cells #[.slice qa Q.length qc, .slice ra (Q.length + 1) rc, .slice qa h2 qc] 30)
              have hbn := (Below.refl WO11.heap.size WO11).alloc (Nat.le_refl _) (.cells #[.slice qa Q.length qc, .slice ra (Q.length + 1) rc, .slice qa h2 qc] 30)
              have hbn2 := HO11.out.1.trans (hbn.mono HO11.out.1.size)
              have hQW := HC.out.2.1.below hbn2 (Nat.le_refl _)
              have HM := Lib.hid (show ThreeP (WO11.alloc (.cells #[.slice qa Q.length qc, .slice ra (Q.length + 1) rc, .slice qa h2 qc] 30)) WO11.heap.size ∧ Below WB.heap.size WB _ from ⟨fun t ht => by
                rcases (by omega : t = 0 ∨ t = 1 ∨ t = 2) with rfl | rfl | rfl
                · exact ⟨qa, qb, qc, Q, blk_cell hnew 0, hQW, hqc, blk_lt hnew⟩
                · exact ⟨ra, rb, rc, Q ++ [F], by rw [hlen]; exact blk_cell hnew 1, hrR.below hbn (Nat.le_refl _), hrc, blk_lt hnew⟩
                · have e2 : (Q.take h2).length = h2 := by rw [List.length_take]; omega
                  refine ⟨qa, qb, qc, Q.take h2, ?_, ?_, ?_, blk_lt hnew⟩
                  · rw [e2]; exact blk_cell hnew 2
                  · rw [e2]; exact hQW.take0 (by omega)
                  · rw [e2]; omega, hbn2⟩)
              clear hnew hbn hQW hrR
              generalize WO11.alloc (.cells #[.slice qa Q.length qc, .slice ra (Q.length + 1) rc, .slice qa h2 qc] 30) = WZ at *
              generalize WO11.heap.size = gz at *
              refine hK' _ _ (hbn2) ?_
              clear hK' K'
              go_simp
              refine wpAnyH_from (fuel := 0) 13 1 (fun _ _ _ _ _ h => h) (by kernel_rfl) (by decide) (by kernel_rfl) (hbn2) ?_
              simp only [List.drop_succ_cons, List.drop_zero, List.take_succ_cons, List.take_zero]
              refine wpHeld_cons (.int .i64 3) (by kernel_rfl) ?_ ?_
              · rintro w' -
                try go_simp
              refine wpHeld_nil ?_
              go_simp
              refine wpAnyH_done (by kernel_rfl) ?_ _
              refine NoPanic.normal ?_
              go_simp
              go_wp2_with fail
              go_meet
              case rel => exact ⟨gz, rfl, rfl, rfl, HM.out⟩
          case rest =>
            obtain ⟨gz, rfl, rfl, rfl, hthree, hbx⟩ := hcut
            have hb2 := HB.out.trans (hbx.mono HB.out.size)
            have H5 := Lib.hid (show wc.heap[w.heap.size]? = _ ∧ Keys wc ∧ Below W4.heap.size W4 wc from ⟨blk_below HC.out.1 hbx (blk_lt HC.out.1), HC.out.2.2.below hbx, hb2⟩)
            have H3 := Lib.hid hthree
            clear hthree hbx hb2 HC HB d1 d2 d3 d4 d5 hc'
            go_upto_region 17 with fail
            go_loopw [86] (fun v wr => ∃ t : Nat, t ≤ 3 ∧ v = .int .i64 t ∧ Below wc.heap.size wc wr) (fun v _ => 3 - (intOf v).toNat)
            case atStart => exact ⟨0, Nat.zero_le _, rfl, Below.refl _ _⟩
            case round =>
              obtain ⟨t, ht, rfl, hB⟩ := hrel
              by_cases ht3 : t < 3
              · obtain ⟨ta, tb, tc, R, hc, hTR, htc, hgz⟩ := H3.out t ht3
                have k7 : (t : Int) < 3 := by omega
                have k8 : ¬ (t : Int) < 0 := by omega
                have k9 : IntKind.i64.wrap ((t : Int) + 1) = ((t + 1 : Nat) : Int) := (wrap_id (by omega)).trans (by omega)
                have hc' := (hB.cell (p := ⟨gz, t, none⟩) hgz).trans hc
                have HR1 := Lib.hid (show wr.heap[w.heap.size]? = _ ∧ DigR wr ta tb 0 R.length R ∧ Below wc.heap.size wc wr ∧ Keys wr from ⟨blk_below H5.out.1 hB (blk_lt H5.out.1), hTR.below hB (Nat.le_refl _), hB, H5.out.2.1.below hB⟩)
                clear hB hc hTR
                obtain ⟨X, hAL⟩ : ∃ X, X = ansL F I M R.length R := ⟨_, rfl⟩
                obtain ⟨y, hAE⟩ : ∃ y, y = ansE I M R.length := ⟨_, rfl⟩
                have hX : X.length = 32 := by rw [hAL]; exact ansL_len _ _ _ _ _
                have HAN := Lib.hid (show _ ∧ _ from ⟨hAL, hAE⟩)
                clear hAL hAE
                go_upto_region 19 with fail
                refine wp_region_lit ?_
                refine wpList_load_row rfl 26 (.tmp 7) rfl w.heap.size (by kernel_rfl) 26 (bV F) (0, 0) _ HR1.out.1 Tryd.underlying26 rfl (by rw [bV_size, hF]; kernel_rfl) ?_
                go_wp2_with fail
                refine (climbE_any F hF I M ta tb 0 R.length tc R wr HR1.out.2.1 htc HR1.out.2.2.2).mono ?_
                rintro e C1 ⟨hC, hbC⟩
                have hC := hC.uni
                rw [← HAN.out.1, ← HAN.out.2] at hC
                subst hC
                have HR2 := Lib.hid (show C1.heap[w.heap.size]? = _ ∧ DigR C1 ta tb 0 R.length R ∧ Below wc.heap.size wc C1 from ⟨blk_below HR1.out.1 hbC (blk_lt HR1.out.1), HR1.out.2.1.below hbC (Nat.le_refl _), HR1.out.2.2.1.trans (hbC.mono HR1.out.2.2.1.size)⟩)
                clear hbC HR1
                go_wp2_with (with_reducible refine held (o := ⟨none, _, _, _, _, _⟩) ?_)
                unfold Held
                refine wpList_store_row rfl 26 (.tmp 20) (.tmp 96) (by kernel_rfl) C1.heap.size (bV X) (by kernel_rfl) (by kernel_rfl) 26 _ (blk_new C1 _) (by rw [bV_size, hX]; kernel_rfl) (by rw [bV_size, hX]; rfl) (bV_one _) ?_
                rw [World.setRow_alloc_new]
                have hba := (Below.refl C1.heap.size C1).alloc (Nat.le_refl _) (.cells (bV X) 26)
                have HR3 := Lib.hid (show _ ∧ DigR _ ta tb 0 R.length R ∧ Below wc.heap.size wc _ ∧ _ from ⟨blk_below HR2.out.1 hba (blk_lt HR2.out.1), HR2.out.2.1.below hba (Nat.le_refl _), HR2.out.2.2.trans (hba.mono HR2.out.2.2.size), blk_new C1 (.cells (bV X) 26)⟩)
                clear hba HR2
                generalize C1.alloc (.cells (bV X) 26) = C2 at *
                generalize C1.heap.size = b20 at *
                go_simp
                go_upto_region 20 with fail
                refine wp_region_lit ?_
                refine wpList_load_row rfl 26 (.tmp 7) rfl w.heap.size (by kernel_rfl) 26 (bV F) (0, 0) _ HR3.out.1 Tryd.underlying26 rfl (by rw [bV_size, hF]; kernel_rfl) ?_
                go_wp2_with fail
                refine (rclimbE_any F hF I M ta tb 0 R.length tc R C2 HR3.out.2.1 htc).mono ?_
                rintro e C3 ⟨hC, hbC⟩
                have hC := hC.uni
                rw [← HAN.out.1, ← HAN.out.2] at hC
                subst hC
                have HR4 := Lib.hid (show C3.heap[b20]? = _ ∧ Below wc.heap.size wc C3 from ⟨blk_below HR3.out.2.2.2 hbC (blk_lt HR3.out.2.2.2), HR3.out.2.2.1.trans (hbC.mono HR3.out.2.2.1.size)⟩)
                clear hbC HR3
                go_wp2_with (with_reducible refine held (o := ⟨none, _, _, _, _, _⟩) ?_)
                unfold Held
                refine wpList_store_row rfl 26 (.tmp 22) (.tmp 104) (by kernel_rfl) C3.heap.size (bV X) (by kernel_rfl) (by kernel_rfl) 26 _ (blk_new C3 _) (by rw [bV_size, hX]; kernel_rfl) (by rw [bV_size, hX]; rfl) (bV_one _) ?_
                rw [World.setRow_alloc_new]
                have hba := (Below.refl C3.heap.size C3).alloc (Nat.le_refl _) (.cells (bV X) 26)
                have HR5 := Lib.hid (show _ ∧ _ ∧ Below wc.heap.size wc _ from ⟨blk_below HR4.out.1 hba (blk_lt HR4.out.1), blk_new C3 (.cells (bV X) 26), HR4.out.2.trans (hba.mono HR4.out.2.size)⟩)
                clear hba HR4
                generalize C3.alloc (.cells (bV X) 26) = C4 at *
                generalize C3.heap.size = b22 at *
                go_simp
                go_upto_region 21 with fail
                refine wp_region_lit ?_
                refine wpList_load_row rfl 26 (.tmp 20) rfl b20 (by kernel_rfl) 26 (bV X) (0, 0) _ HR5.out.1 Tryd.underlying26 rfl (by rw [bV_size, hX]; kernel_rfl) ?_
                refine wpList_load_row rfl 26 (.tmp 22) rfl b22 (by kernel_rfl) 26 (bV X) (0, 0) _ HR5.out.2.1 Tryd.underlying26 rfl (by rw [bV_size, hX]; kernel_rfl) ?_
                have ke := fun (W : World) => run_eq_D X X hX hX W
                go_wp2_with fail
                go_roundw
                case rel => exact ⟨t + 1, ht3, by go_num, HR5.out.2.2⟩
                case measure => simp [intOf]; omega
              · have k7 : ¬ (t : Int) < 3 := by omega
                have hfin := H5.out.2.2.trans (hB.mono H5.out.2.2.size)
                go_wp2_with fail
                go_roundw
                case rel => exact ⟨s + 1, hs2, by go_num, hfin⟩
                case measure => simp [intOf]; omega
        · have k4 : ¬ (s : Int) < 2 := by omega
          have hfin := H4.out.1.trans (hB.mono H4.out.1.size)
          go_wp2_with fail
          go_roundw
          case rel => exact ⟨u + 1, hu2, by go_num, hfin⟩
          case measure => simp [intOf]; omega
    · have k1 : ¬ (u : Int) < 2 := by omega
      go_wp2
      go_ret
      exact ⟨rfl, H2.out.2.2.1.trans (hB.mono H2.out.2.2.1.size)⟩
end Go.Proofs.YthbjjfblapfjdaaDoor
