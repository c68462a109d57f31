/- DiskNewSpec (layer 4). -/
import Derived.Test.YtbimmahlcceadaaDskSane
import Derived.Test.YtbimmahlcceadaaDskCase
import Derived.Test.YtbimmahlcceadaaDskFew0
namespace Go.Proofs.Ytbimmahlcceadaa
open Go.ChangeShapes Go.WideShapes Go.ChangeAt Go.RowKit
set_option linter.unusedVariables false in
set_option maxRecDepth 100000 in
set_option maxHeartbeats 4000000 in
theorem diskNewSpec_walk (S : List Sl) (P : List Wr) (lf : Int) (st : Bool) (sa : Option Addr) (sb so sn sc : Nat) (pa : Option Addr) (pb po pn pc : Nat) (n : Int) (w : World) (hS : Secs w sa sb so sn S) (hP : Pens w pa pb po pn P) (hsn : sn ≤ 9223372036854775807) (hpn : pn ≤ 9223372036854775807) (hpc : pn ≤ pc) (hpz : pa = none → pc = 0) (hsz : sa = none → sc = 0)  :
    Calls Try.prog 3 #[.int .i64 n, .agg #[.slice sa sn sc, .slice pa pn pc, .int .i64 lf, .bool st]] w fun e w' => e = .returned (.bool true) ∧ Below w.heap.size w w' := by
  have HA := Lib.hid (show _ ∧ _ from ⟨hS, hP⟩)
  clear hS hP 
  go_enter Try.func3, Try.ntmps3
  have HW := Lib.hid (Below.refl w.heap.size w)
  go_upto_region 1 with fail
  have H1 := Lib.hid (show _ ∧ _ from ⟨below_after HW.out ((Below.refl w.heap.size w).alloc (Nat.le_refl _) (.cells #[.slice sa sn sc, .slice pa pn pc, .int .i64 lf, .bool st] 25)) HW.out.size, blk_new w (.cells #[.slice sa sn sc, .slice pa pn pc, .int .i64 lf, .bool st] 25)⟩)
  have hzW1 : w.heap.size < (w.alloc (.cells #[.slice sa sn sc, .slice pa pn pc, .int .i64 lf, .bool st] 25)).heap.size := by simp
  generalize w.alloc (.cells #[.slice sa sn sc, .slice pa pn pc, .int .i64 lf, .bool st] 25) = W1 at *
  go_wp2_with fail
  refine (sane_any _).mono ?_
  rintro e W2 ⟨hp, hb⟩
  subst hp
  have H2 := Lib.hid (show _ ∧ _ from ⟨below_after H1.out.1 hb H1.out.1.size, blk_below H1.out.2 hb (blk_lt H1.out.2)⟩)
  clear hb
  by_cases hn : 60 < n ∧ n ≤ 4096
  · have xd0 := blk_cell H2.out.2 0
    have xd1 := blk_cell H2.out.2 1
    have xd2 := blk_cell H2.out.2 2
    have xd3 := blk_cell H2.out.2 3
    have c1 := hn.1
    have c2 := hn.2
    go_wp2
    go_ret
    exact ⟨rfl, H2.out.1⟩
  by_cases h60 : 60 < n
  · have c2 : ¬ n ≤ 4096 := by omega
    have HN := Lib.hid (show n < 1 ∨ 4096 < n by omega)
    clear hn
    have xd0 := blk_cell H2.out.2 0
    have xd1 := blk_cell H2.out.2 1
    have xd2 := blk_cell H2.out.2 2
    have xd3 := blk_cell H2.out.2 3
    go_wp2_with fail
    clear xd0 xd1 xd2 xd3
    refine (few_all S P lf st sa sb so sn sc pa pb po pn pc _ (HA.out.1.below H2.out.1 (Nat.le_refl _)) (HA.out.2.below H2.out.1 (Nat.le_refl _)) (by omega) (by omega)).mono ?_
    rintro e W3 ⟨hp, hb⟩
    obtain ⟨r, rfl⟩ := hp
    have H3 := Lib.hid (show _ ∧ _ from ⟨below_after H2.out.1 hb H2.out.1.size, blk_below H2.out.2 hb (blk_lt H2.out.2)⟩)
    clear hb
    cases r
    case false =>
      go_wp2
      go_ret
      exact ⟨rfl, H3.out.1⟩
    go_wp2_with fail
    refine (new_any n _).mono ?_
    rintro e W4 ⟨hp, hb⟩
    replace hp := hp.s.bad HN.out
    subst hp
    have H4 := Lib.hid (show _ ∧ _ from ⟨below_after H3.out.1 hb H3.out.1.size, blk_below H3.out.2 hb (blk_lt H3.out.2)⟩)
    clear hb
    go_upto_region 6 with fail
    have H5 := Lib.hid (show _ ∧ _ ∧ _ from ⟨below_after H4.out.1 ((Below.refl W4.heap.size W4).alloc (Nat.le_refl _) (.cells #[.slice none 0 0, .slice none 0 0, .int .i64 0, .bool false] 25)) H4.out.1.size, blk_below H4.out.2 ((Below.refl W4.heap.size W4).alloc (Nat.le_refl _) (.cells #[.slice none 0 0, .slice none 0 0, .int .i64 0, .bool false] 25)) (blk_lt H4.out.2), blk_new W4 (.cells #[.slice none 0 0, .slice none 0 0, .int .i64 0, .bool false] 25)⟩)
    have hzW5 : W4.heap.size < (W4.alloc (.cells #[.slice none 0 0, .slice none 0 0, .int .i64 0, .bool false] 25)).heap.size := by simp
    generalize W4.alloc (.cells #[.slice none 0 0, .slice none 0 0, .int .i64 0, .bool false] 25) = W5 at *
    go_wp2_with fail
    refine (rnew_any n _).mono ?_
    rintro e W6 ⟨hp, hb⟩
    replace hp := hp.bad HN.out
    subst hp
    have H6 := Lib.hid (show _ ∧ _ ∧ _ from ⟨below_after H5.out.1 hb H5.out.1.size, blk_below H5.out.2.1 hb (blk_lt H5.out.2.1), blk_below H5.out.2.2 hb (blk_lt H5.out.2.2)⟩)
    clear hb
    go_upto_region 7 with fail
    have H7 := Lib.hid (show _ ∧ _ ∧ _ ∧ _ from ⟨below_after H6.out.1 ((Below.refl W6.heap.size W6).alloc (Nat.le_refl _) (.cells #[.slice none 0 0, .slice none 0 0, .int .i64 0, .bool false] 25)) H6.out.1.size, blk_below H6.out.2.1 ((Below.refl W6.heap.size W6).alloc (Nat.le_refl _) (.cells #[.slice none 0 0, .slice none 0 0, .int .i64 0, .bool false] 25)) (blk_lt H6.out.2.1), blk_below H6.out.2.2 ((Below.refl W6.heap.size W6).alloc (Nat.le_refl _) (.cells #[.slice none 0 0, .slice none 0 0, .int .i64 0, .bool false] 25)) (blk_lt H6.out.2.2), blk_new W6 (.cells #[.slice none 0 0, .slice none 0 0, .int .i64 0, .bool false] 25)⟩)
    have hzW7 : W6.heap.size < (W6.alloc (.cells #[.slice none 0 0, .slice none 0 0, .int .i64 0, .bool false] 25)).heap.size := by simp
    generalize W6.alloc (.cells #[.slice none 0 0, .slice none 0 0, .int .i64 0, .bool false] 25) = W7 at *
    refine wp_region_from 0 2 (fun w' => w'.heap[W4.heap.size]? = some (.cells #[.slice none 0 0, .slice none 0 0, .int .i64 0, .bool false] 25 (0, 0)) ∧ w'.heap[W6.heap.size]? = some (.cells #[.slice none 0 0, .slice none 0 0, .int .i64 0, .bool false] 25 (0, 0)) ∧ w'.heap[w.heap.size]? = some (.cells #[.slice sa sn sc, .slice pa pn pc, .int .i64 lf, .bool st] 25 (0, 0))) (by kernel_rfl) (by kernel_rfl) (by decide) (by kernel_rfl) (⟨blk_below H7.out.2.2.1 ((Below.refl W7.heap.size W7).drew) (blk_lt H7.out.2.2.1), blk_below H7.out.2.2.2 ((Below.refl W7.heap.size W7).drew) (blk_lt H7.out.2.2.2), blk_below H7.out.2.1 ((Below.refl W7.heap.size W7).drew) (blk_lt H7.out.2.1)⟩) ?_
    simp only [List.drop_zero, List.take_succ_cons, List.take_zero]
    refine wpHeld_cons (.agg #[.slice none 0 0, .slice none 0 0, .int .i64 0, .bool false]) (by kernel_rfl) ?_ ?_
    · rintro w' ⟨s1, s2, s3⟩
      have y0 := blk_cell s1 0
      simp at y0
      have y1 := blk_cell s1 1
      simp at y1
      have y2 := blk_cell s1 2
      simp at y2
      have y3 := blk_cell s1 3
      simp at y3
      try go_simp
    refine wpHeld_cons (.agg #[.slice none 0 0, .slice none 0 0, .int .i64 0, .bool false]) (by kernel_rfl) ?_ ?_
    · rintro w' ⟨s1, s2, s3⟩
      have y0 := blk_cell s2 0
      simp at y0
      have y1 := blk_cell s2 1
      simp at y1
      have y2 := blk_cell s2 2
      simp at y2
      have y3 := blk_cell s2 3
      simp at y3
      try go_simp
    refine wpHeld_nil ?_
    go_simp
    refine wpAnyH_one (i := 2) (by kernel_rfl) rfl (by kernel_rfl) (fun K' hK' => ?_)
    go_simp
    refine (same_any [] [] [] [] 0 false none none 0 0 0 0 0 0 0 none none 0 0 0 0 0 0 0 _ (secs_nil _ _) (pens_nil _ _) (secs_nil _ _) (pens_nil _ _) (by omega) (by omega) (fun i hi => by omega) (fun i hi => by omega)).mono ?_
    rintro e V1 ⟨hp, hb⟩
    subst hp
    have K1 := Lib.hid (below_after ((Below.refl W7.heap.size W7).drew) hb ((Below.refl W7.heap.size W7).drew).size)
    clear hb
    refine hK' _ _ (⟨blk_below H7.out.2.2.1 K1.out (blk_lt H7.out.2.2.1), blk_below H7.out.2.2.2 K1.out (blk_lt H7.out.2.2.2), blk_below H7.out.2.1 K1.out (blk_lt H7.out.2.1)⟩) ?_
    clear hK' K'
    go_simp
    refine wpAnyH_from (fuel := 14) 3 6 (fun _ _ _ _ _ h => h) (by kernel_rfl) (by decide) (by kernel_rfl) (⟨blk_below H7.out.2.2.1 K1.out (blk_lt H7.out.2.2.1), blk_below H7.out.2.2.2 K1.out (blk_lt H7.out.2.2.2), blk_below H7.out.2.1 K1.out (blk_lt H7.out.2.1)⟩) ?_
    simp only [List.drop_succ_cons, List.drop_zero, List.take_succ_cons, List.take_zero]
    refine wpHeld_cons (.bool true) (by kernel_rfl) ?_ ?_
    · rintro w' ⟨s1, s2, s3⟩
      try go_simp
    refine wpHeld_cons (.int .i64 1) (by kernel_rfl) ?_ ?_
    · rintro w' ⟨s1, s2, s3⟩
      try go_simp
    refine wpHeld_cons (.int .i64 1) (by kernel_rfl) ?_ ?_
    · rintro w' ⟨s1, s2, s3⟩
      try go_simp
    refine wpHeld_cons (.bool true) (by kernel_rfl) ?_ ?_
    · rintro w' ⟨s1, s2, s3⟩
      try go_simp
    refine wpHeld_cons (.bool true) (by kernel_rfl) ?_ ?_
    · rintro w' ⟨s1, s2, s3⟩
      try go_simp
    refine wpHeld_cons (.bool true) (by kernel_rfl) ?_ ?_
    · rintro w' ⟨s1, s2, s3⟩
      try go_simp
    refine wpHeld_nil ?_
    go_simp
    refine wpAnyH_from (fuel := 13) 9 1 (fun _ _ _ _ _ h => h) (by kernel_rfl) (by decide) (by kernel_rfl) (⟨blk_below H7.out.2.2.1 K1.out (blk_lt H7.out.2.2.1), blk_below H7.out.2.2.2 K1.out (blk_lt H7.out.2.2.2), blk_below H7.out.2.1 K1.out (blk_lt H7.out.2.1)⟩) ?_
    simp only [List.drop_succ_cons, List.drop_zero, List.take_succ_cons, List.take_zero]
    refine wpHeld_cons (.agg #[.slice sa sn sc, .slice pa pn pc, .int .i64 lf, .bool st]) (by kernel_rfl) ?_ ?_
    · rintro w' ⟨s1, s2, s3⟩
      have y0 := blk_cell s3 0
      simp at y0
      have y1 := blk_cell s3 1
      simp at y1
      have y2 := blk_cell s3 2
      simp at y2
      have y3 := blk_cell s3 3
      simp at y3
      try go_simp
    refine wpHeld_nil ?_
    go_simp
    refine wpAnyH_from (fuel := 12) 11 1 (fun _ _ _ _ _ h => h) (by kernel_rfl) (by decide) (by kernel_rfl) (⟨blk_below H7.out.2.2.1 K1.out (blk_lt H7.out.2.2.1), blk_below H7.out.2.2.2 K1.out (blk_lt H7.out.2.2.2), blk_below H7.out.2.1 K1.out (blk_lt H7.out.2.1)⟩) ?_
    simp only [List.drop_succ_cons, List.drop_zero, List.take_succ_cons, List.take_zero]
    refine wpHeld_cons (.agg #[.slice sa sn sc, .slice pa pn pc, .int .i64 lf, .bool st]) (by kernel_rfl) ?_ ?_
    · rintro w' ⟨s1, s2, s3⟩
      have y0 := blk_cell s3 0
      simp at y0
      have y1 := blk_cell s3 1
      simp at y1
      have y2 := blk_cell s3 2
      simp at y2
      have y3 := blk_cell s3 3
      simp at y3
      try go_simp
    refine wpHeld_nil ?_
    go_simp
    refine wpAnyH_one (i := 10) (by kernel_rfl) rfl (by kernel_rfl) (fun K' hK' => ?_)
    go_simp
    refine (check_any S P lf st sa sb so sn sc pa pb po pn pc _ (HA.out.1.below (H7.out.1.trans (K1.out.mono H7.out.1.size)) (Nat.le_refl _)) (HA.out.2.below (H7.out.1.trans (K1.out.mono H7.out.1.size)) (Nat.le_refl _)) (by omega) (by omega)).mono ?_
    rintro e V2 ⟨hp, hb⟩
    subst hp
    have K2 := Lib.hid (below_after K1.out hb K1.out.size)
    clear hb
    refine hK' _ _ (⟨blk_below H7.out.2.2.1 K2.out (blk_lt H7.out.2.2.1), blk_below H7.out.2.2.2 K2.out (blk_lt H7.out.2.2.2), blk_below H7.out.2.1 K2.out (blk_lt H7.out.2.1)⟩) ?_
    clear hK' K'
    go_simp
    refine wpAnyH_one (i := 12) (by kernel_rfl) rfl (by kernel_rfl) (fun K' hK' => ?_)
    go_simp
    refine (rcheck_any S P lf st sa sb so sn sc pa pb po pn pc _ (HA.out.1.below (H7.out.1.trans (K2.out.mono H7.out.1.size)) (Nat.le_refl _)) (HA.out.2.below (H7.out.1.trans (K2.out.mono H7.out.1.size)) (Nat.le_refl _)) (by omega) (by omega)).mono ?_
    rintro e V3 ⟨hp, hb⟩
    subst hp
    have K3 := Lib.hid (below_after K2.out hb K2.out.size)
    clear hb
    refine hK' _ _ (⟨blk_below H7.out.2.2.1 K3.out (blk_lt H7.out.2.2.1), blk_below H7.out.2.2.2 K3.out (blk_lt H7.out.2.2.2), blk_below H7.out.2.1 K3.out (blk_lt H7.out.2.1)⟩) ?_
    clear hK' K'
    go_simp
    refine wpAnyH_from (fuel := 7) 13 3 (fun _ _ _ _ _ h => h) (by kernel_rfl) (by decide) (by kernel_rfl) (⟨blk_below H7.out.2.2.1 K3.out (blk_lt H7.out.2.2.1), blk_below H7.out.2.2.2 K3.out (blk_lt H7.out.2.2.2), blk_below H7.out.2.1 K3.out (blk_lt H7.out.2.1)⟩) ?_
    simp only [List.drop_succ_cons, List.drop_zero, List.take_succ_cons, List.take_zero]
    refine wpHeld_cons (.bool true) (by kernel_rfl) ?_ ?_
    · rintro w' ⟨s1, s2, s3⟩
      try go_simp
    refine wpHeld_cons (.bool true) (by kernel_rfl) ?_ ?_
    · rintro w' ⟨s1, s2, s3⟩
      try go_simp
    refine wpHeld_cons (.bool true) (by kernel_rfl) ?_ ?_
    · rintro w' ⟨s1, s2, s3⟩
      try go_simp
    refine wpHeld_nil ?_
    go_simp
    refine wpAnyH_from (fuel := 6) 16 1 (fun _ _ _ _ _ h => h) (by kernel_rfl) (by decide) (by kernel_rfl) (⟨blk_below H7.out.2.2.1 K3.out (blk_lt H7.out.2.2.1), blk_below H7.out.2.2.2 K3.out (blk_lt H7.out.2.2.2), blk_below H7.out.2.1 K3.out (blk_lt H7.out.2.1)⟩) ?_
    simp only [List.drop_succ_cons, List.drop_zero, List.take_succ_cons, List.take_zero]
    refine wpHeld_cons (.agg #[.slice sa sn sc, .slice pa pn pc, .int .i64 lf, .bool st]) (by kernel_rfl) ?_ ?_
    · rintro w' ⟨s1, s2, s3⟩
      have y0 := blk_cell s3 0
      simp at y0
      have y1 := blk_cell s3 1
      simp at y1
      have y2 := blk_cell s3 2
      simp at y2
      have y3 := blk_cell s3 3
      simp at y3
      try go_simp
    refine wpHeld_nil ?_
    go_simp
    refine wpAnyH_from (fuel := 5) 18 1 (fun _ _ _ _ _ h => h) (by kernel_rfl) (by decide) (by kernel_rfl) (⟨blk_below H7.out.2.2.1 K3.out (blk_lt H7.out.2.2.1), blk_below H7.out.2.2.2 K3.out (blk_lt H7.out.2.2.2), blk_below H7.out.2.1 K3.out (blk_lt H7.out.2.1)⟩) ?_
    simp only [List.drop_succ_cons, List.drop_zero, List.take_succ_cons, List.take_zero]
    refine wpHeld_cons (.agg #[.slice sa sn sc, .slice pa pn pc, .int .i64 lf, .bool st]) (by kernel_rfl) ?_ ?_
    · rintro w' ⟨s1, s2, s3⟩
      have y0 := blk_cell s3 0
      simp at y0
      have y1 := blk_cell s3 1
      simp at y1
      have y2 := blk_cell s3 2
      simp at y2
      have y3 := blk_cell s3 3
      simp at y3
      try go_simp
    refine wpHeld_nil ?_
    go_simp
    refine wpAnyH_one (i := 17) (by kernel_rfl) rfl (by kernel_rfl) (fun K' hK' => ?_)
    go_simp
    refine (restart_any sa sn sc pa pn pc lf st _).mono ?_
    rintro e V4 ⟨hp, hb⟩
    subst hp
    have K4 := Lib.hid (below_after K3.out hb K3.out.size)
    clear hb
    refine hK' _ _ (⟨blk_below H7.out.2.2.1 K4.out (blk_lt H7.out.2.2.1), blk_below H7.out.2.2.2 K4.out (blk_lt H7.out.2.2.2), blk_below H7.out.2.1 K4.out (blk_lt H7.out.2.1)⟩) ?_
    clear hK' K'
    go_simp
    refine wpAnyH_one (i := 19) (by kernel_rfl) rfl (by kernel_rfl) (fun K' hK' => ?_)
    go_simp
    refine (rrestart_any sa sn sc pa pn pc lf st _).mono ?_
    rintro e V5 ⟨hp, hb⟩
    subst hp
    have K5 := Lib.hid (below_after K4.out hb K4.out.size)
    clear hb
    refine hK' _ _ (⟨blk_below H7.out.2.2.1 K5.out (blk_lt H7.out.2.2.1), blk_below H7.out.2.2.2 K5.out (blk_lt H7.out.2.2.2), blk_below H7.out.2.1 K5.out (blk_lt H7.out.2.1)⟩) ?_
    clear hK' K'
    go_simp
    refine wpAnyH_one (i := 20) (by kernel_rfl) rfl (by kernel_rfl) (fun K' hK' => ?_)
    go_simp
    refine (same_any S S [] [] (-1) false sa sa sb so sb so sn sc sc none none 0 0 0 0 0 0 0 _ (HA.out.1.below (H7.out.1.trans (K5.out.mono H7.out.1.size)) (Nat.le_refl _)) (pens_nil _ _) (HA.out.1.below (H7.out.1.trans (K5.out.mono H7.out.1.size)) (Nat.le_refl _)) (pens_nil _ _) (by omega) (by omega) (fun i hi => rfl) (fun i hi => by omega)).mono ?_
    rintro e V6 ⟨hp, hb⟩
    subst hp
    have K6 := Lib.hid (below_after K5.out hb K5.out.size)
    clear hb
    refine hK' _ _ (⟨blk_below H7.out.2.2.1 K6.out (blk_lt H7.out.2.2.1), blk_below H7.out.2.2.2 K6.out (blk_lt H7.out.2.2.2), blk_below H7.out.2.1 K6.out (blk_lt H7.out.2.1)⟩) ?_
    clear hK' K'
    go_simp
    refine wpAnyH_from (fuel := 0) 21 2 (fun _ _ _ _ _ h => h) (by kernel_rfl) (by decide) (by kernel_rfl) (⟨blk_below H7.out.2.2.1 K6.out (blk_lt H7.out.2.2.1), blk_below H7.out.2.2.2 K6.out (blk_lt H7.out.2.2.2), blk_below H7.out.2.1 K6.out (blk_lt H7.out.2.1)⟩) ?_
    simp only [List.drop_succ_cons, List.drop_zero, List.take_succ_cons, List.take_zero]
    refine wpHeld_cons (.bool true) (by kernel_rfl) ?_ ?_
    · rintro w' ⟨s1, s2, s3⟩
      try go_simp
    refine wpHeld_cons (.bool true) (by kernel_rfl) ?_ ?_
    · rintro w' ⟨s1, s2, s3⟩
      try go_simp
    refine wpHeld_nil ?_
    go_simp
    refine wpAnyH_done (by kernel_rfl) ?_ _
    refine NoPanic.normal ?_
    go_simp
    have HFin := Lib.hid (H7.out.1.trans (K6.out.mono H7.out.1.size))
    go_wp2
    go_ret
    exact ⟨rfl, HFin.out⟩
  clear hn
  by_cases h1 : n < 1
  · have HN := Lib.hid (show n < 1 ∨ 4096 < n by omega)
    clear h1
    have xd0 := blk_cell H2.out.2 0
    have xd1 := blk_cell H2.out.2 1
    have xd2 := blk_cell H2.out.2 2
    have xd3 := blk_cell H2.out.2 3
    go_wp2_with fail
    clear xd0 xd1 xd2 xd3
    refine (few_all S P lf st sa sb so sn sc pa pb po pn pc _ (HA.out.1.below H2.out.1 (Nat.le_refl _)) (HA.out.2.below H2.out.1 (Nat.le_refl _)) (by omega) (by omega)).mono ?_
    rintro e W3 ⟨hp, hb⟩
    obtain ⟨r, rfl⟩ := hp
    have H3 := Lib.hid (show _ ∧ _ from ⟨below_after H2.out.1 hb H2.out.1.size, blk_below H2.out.2 hb (blk_lt H2.out.2)⟩)
    clear hb
    cases r
    case false =>
      go_wp2
      go_ret
      exact ⟨rfl, H3.out.1⟩
    go_wp2_with fail
    refine (new_any n _).mono ?_
    rintro e W4 ⟨hp, hb⟩
    replace hp := hp.s.bad HN.out
    subst hp
    have H4 := Lib.hid (show _ ∧ _ from ⟨below_after H3.out.1 hb H3.out.1.size, blk_below H3.out.2 hb (blk_lt H3.out.2)⟩)
    clear hb
    go_upto_region 6 with fail
    have H5 := Lib.hid (show _ ∧ _ ∧ _ from ⟨below_after H4.out.1 ((Below.refl W4.heap.size W4).alloc (Nat.le_refl _) (.cells #[.slice none 0 0, .slice none 0 0, .int .i64 0, .bool false] 25)) H4.out.1.size, blk_below H4.out.2 ((Below.refl W4.heap.size W4).alloc (Nat.le_refl _) (.cells #[.slice none 0 0, .slice none 0 0, .int .i64 0, .bool false] 25)) (blk_lt H4.out.2), blk_new W4 (.cells #[.slice none 0 0, .slice none 0 0, .int .i64 0, .bool false] 25)⟩)
    have hzW5 : W4.heap.size < (W4.alloc (.cells #[.slice none 0 0, .slice none 0 0, .int .i64 0, .bool false] 25)).heap.size := by simp
    generalize W4.alloc (.cells #[.slice none 0 0, .slice none 0 0, .int .i64 0, .bool false] 25) = W5 at *
    go_wp2_with fail
    refine (rnew_any n _).mono ?_
    rintro e W6 ⟨hp, hb⟩
    replace hp := hp.bad HN.out
    subst hp
    have H6 := Lib.hid (show _ ∧ _ ∧ _ from ⟨below_after H5.out.1 hb H5.out.1.size, blk_below H5.out.2.1 hb (blk_lt H5.out.2.1), blk_below H5.out.2.2 hb (blk_lt H5.out.2.2)⟩)
    clear hb
    go_upto_region 7 with fail
    have H7 := Lib.hid (show _ ∧ _ ∧ _ ∧ _ from ⟨below_after H6.out.1 ((Below.refl W6.heap.size W6).alloc (Nat.le_refl _) (.cells #[.slice none 0 0, .slice none 0 0, .int .i64 0, .bool false] 25)) H6.out.1.size, blk_below H6.out.2.1 ((Below.refl W6.heap.size W6).alloc (Nat.le_refl _) (.cells #[.slice none 0 0, .slice none 0 0, .int .i64 0, .bool false] 25)) (blk_lt H6.out.2.1), blk_below H6.out.2.2 ((Below.refl W6.heap.size W6).alloc (Nat.le_refl _) (.cells #[.slice none 0 0, .slice none 0 0, .int .i64 0, .bool false] 25)) (blk_lt H6.out.2.2), blk_new W6 (.cells #[.slice none 0 0, .slice none 0 0, .int .i64 0, .bool false] 25)⟩)
    have hzW7 : W6.heap.size < (W6.alloc (.cells #[.slice none 0 0, .slice none 0 0, .int .i64 0, .bool false] 25)).heap.size := by simp
    generalize W6.alloc (.cells #[.slice none 0 0, .slice none 0 0, .int .i64 0, .bool false] 25) = W7 at *
    refine wp_region_from 0 2 (fun w' => w'.heap[W4.heap.size]? = some (.cells #[.slice none 0 0, .slice none 0 0, .int .i64 0, .bool false] 25 (0, 0)) ∧ w'.heap[W6.heap.size]? = some (.cells #[.slice none 0 0, .slice none 0 0, .int .i64 0, .bool false] 25 (0, 0)) ∧ w'.heap[w.heap.size]? = some (.cells #[.slice sa sn sc, .slice pa pn pc, .int .i64 lf, .bool st] 25 (0, 0))) (by kernel_rfl) (by kernel_rfl) (by decide) (by kernel_rfl) (⟨blk_below H7.out.2.2.1 ((Below.refl W7.heap.size W7).drew) (blk_lt H7.out.2.2.1), blk_below H7.out.2.2.2 ((Below.refl W7.heap.size W7).drew) (blk_lt H7.out.2.2.2), blk_below H7.out.2.1 ((Below.refl W7.heap.size W7).drew) (blk_lt H7.out.2.1)⟩) ?_
    simp only [List.drop_zero, List.take_succ_cons, List.take_zero]
    refine wpHeld_cons (.agg #[.slice none 0 0, .slice none 0 0, .int .i64 0, .bool false]) (by kernel_rfl) ?_ ?_
    · rintro w' ⟨s1, s2, s3⟩
      have y0 := blk_cell s1 0
      simp at y0
      have y1 := blk_cell s1 1
      simp at y1
      have y2 := blk_cell s1 2
      simp at y2
      have y3 := blk_cell s1 3
      simp at y3
      try go_simp
    refine wpHeld_cons (.agg #[.slice none 0 0, .slice none 0 0, .int .i64 0, .bool false]) (by kernel_rfl) ?_ ?_
    · rintro w' ⟨s1, s2, s3⟩
      have y0 := blk_cell s2 0
      simp at y0
      have y1 := blk_cell s2 1
      simp at y1
      have y2 := blk_cell s2 2
      simp at y2
      have y3 := blk_cell s2 3
      simp at y3
      try go_simp
    refine wpHeld_nil ?_
    go_simp
    refine wpAnyH_one (i := 2) (by kernel_rfl) rfl (by kernel_rfl) (fun K' hK' => ?_)
    go_simp
    refine (same_any [] [] [] [] 0 false none none 0 0 0 0 0 0 0 none none 0 0 0 0 0 0 0 _ (secs_nil _ _) (pens_nil _ _) (secs_nil _ _) (pens_nil _ _) (by omega) (by omega) (fun i hi => by omega) (fun i hi => by omega)).mono ?_
    rintro e V1 ⟨hp, hb⟩
    subst hp
    have K1 := Lib.hid (below_after ((Below.refl W7.heap.size W7).drew) hb ((Below.refl W7.heap.size W7).drew).size)
    clear hb
    refine hK' _ _ (⟨blk_below H7.out.2.2.1 K1.out (blk_lt H7.out.2.2.1), blk_below H7.out.2.2.2 K1.out (blk_lt H7.out.2.2.2), blk_below H7.out.2.1 K1.out (blk_lt H7.out.2.1)⟩) ?_
    clear hK' K'
    go_simp
    refine wpAnyH_from (fuel := 14) 3 6 (fun _ _ _ _ _ h => h) (by kernel_rfl) (by decide) (by kernel_rfl) (⟨blk_below H7.out.2.2.1 K1.out (blk_lt H7.out.2.2.1), blk_below H7.out.2.2.2 K1.out (blk_lt H7.out.2.2.2), blk_below H7.out.2.1 K1.out (blk_lt H7.out.2.1)⟩) ?_
    simp only [List.drop_succ_cons, List.drop_zero, List.take_succ_cons, List.take_zero]
    refine wpHeld_cons (.bool true) (by kernel_rfl) ?_ ?_
    · rintro w' ⟨s1, s2, s3⟩
      try go_simp
    refine wpHeld_cons (.int .i64 1) (by kernel_rfl) ?_ ?_
    · rintro w' ⟨s1, s2, s3⟩
      try go_simp
    refine wpHeld_cons (.int .i64 1) (by kernel_rfl) ?_ ?_
    · rintro w' ⟨s1, s2, s3⟩
      try go_simp
    refine wpHeld_cons (.bool true) (by kernel_rfl) ?_ ?_
    · rintro w' ⟨s1, s2, s3⟩
      try go_simp
    refine wpHeld_cons (.bool true) (by kernel_rfl) ?_ ?_
    · rintro w' ⟨s1, s2, s3⟩
      try go_simp
    refine wpHeld_cons (.bool true) (by kernel_rfl) ?_ ?_
    · rintro w' ⟨s1, s2, s3⟩
      try go_simp
    refine wpHeld_nil ?_
    go_simp
    refine wpAnyH_from (fuel := 13) 9 1 (fun _ _ _ _ _ h => h) (by kernel_rfl) (by decide) (by kernel_rfl) (⟨blk_below H7.out.2.2.1 K1.out (blk_lt H7.out.2.2.1), blk_below H7.out.2.2.2 K1.out (blk_lt H7.out.2.2.2), blk_below H7.out.2.1 K1.out (blk_lt H7.out.2.1)⟩) ?_
    simp only [List.drop_succ_cons, List.drop_zero, List.take_succ_cons, List.take_zero]
    refine wpHeld_cons (.agg #[.slice sa sn sc, .slice pa pn pc, .int .i64 lf, .bool st]) (by kernel_rfl) ?_ ?_
    · rintro w' ⟨s1, s2, s3⟩
      have y0 := blk_cell s3 0
      simp at y0
      have y1 := blk_cell s3 1
      simp at y1
      have y2 := blk_cell s3 2
      simp at y2
      have y3 := blk_cell s3 3
      simp at y3
      try go_simp
    refine wpHeld_nil ?_
    go_simp
    refine wpAnyH_from (fuel := 12) 11 1 (fun _ _ _ _ _ h => h) (by kernel_rfl) (by decide) (by kernel_rfl) (⟨blk_below H7.out.2.2.1 K1.out (blk_lt H7.out.2.2.1), blk_below H7.out.2.2.2 K1.out (blk_lt H7.out.2.2.2), blk_below H7.out.2.1 K1.out (blk_lt H7.out.2.1)⟩) ?_
    simp only [List.drop_succ_cons, List.drop_zero, List.take_succ_cons, List.take_zero]
    refine wpHeld_cons (.agg #[.slice sa sn sc, .slice pa pn pc, .int .i64 lf, .bool st]) (by kernel_rfl) ?_ ?_
    · rintro w' ⟨s1, s2, s3⟩
      have y0 := blk_cell s3 0
      simp at y0
      have y1 := blk_cell s3 1
      simp at y1
      have y2 := blk_cell s3 2
      simp at y2
      have y3 := blk_cell s3 3
      simp at y3
      try go_simp
    refine wpHeld_nil ?_
    go_simp
    refine wpAnyH_one (i := 10) (by kernel_rfl) rfl (by kernel_rfl) (fun K' hK' => ?_)
    go_simp
    refine (check_any S P lf st sa sb so sn sc pa pb po pn pc _ (HA.out.1.below (H7.out.1.trans (K1.out.mono H7.out.1.size)) (Nat.le_refl _)) (HA.out.2.below (H7.out.1.trans (K1.out.mono H7.out.1.size)) (Nat.le_refl _)) (by omega) (by omega)).mono ?_
    rintro e V2 ⟨hp, hb⟩
    subst hp
    have K2 := Lib.hid (below_after K1.out hb K1.out.size)
    clear hb
    refine hK' _ _ (⟨blk_below H7.out.2.2.1 K2.out (blk_lt H7.out.2.2.1), blk_below H7.out.2.2.2 K2.out (blk_lt H7.out.2.2.2), blk_below H7.out.2.1 K2.out (blk_lt H7.out.2.1)⟩) ?_
    clear hK' K'
    go_simp
    refine wpAnyH_one (i := 12) (by kernel_rfl) rfl (by kernel_rfl) (fun K' hK' => ?_)
    go_simp
    refine (rcheck_any S P lf st sa sb so sn sc pa pb po pn pc _ (HA.out.1.below (H7.out.1.trans (K2.out.mono H7.out.1.size)) (Nat.le_refl _)) (HA.out.2.below (H7.out.1.trans (K2.out.mono H7.out.1.size)) (Nat.le_refl _)) (by omega) (by omega)).mono ?_
    rintro e V3 ⟨hp, hb⟩
    subst hp
    have K3 := Lib.hid (below_after K2.out hb K2.out.size)
    clear hb
    refine hK' _ _ (⟨blk_below H7.out.2.2.1 K3.out (blk_lt H7.out.2.2.1), blk_below H7.out.2.2.2 K3.out (blk_lt H7.out.2.2.2), blk_below H7.out.2.1 K3.out (blk_lt H7.out.2.1)⟩) ?_
    clear hK' K'
    go_simp
    refine wpAnyH_from (fuel := 7) 13 3 (fun _ _ _ _ _ h => h) (by kernel_rfl) (by decide) (by kernel_rfl) (⟨blk_below H7.out.2.2.1 K3.out (blk_lt H7.out.2.2.1), blk_below H7.out.2.2.2 K3.out (blk_lt H7.out.2.2.2), blk_below H7.out.2.1 K3.out (blk_lt H7.out.2.1)⟩) ?_
    simp only [List.drop_succ_cons, List.drop_zero, List.take_succ_cons, List.take_zero]
    refine wpHeld_cons (.bool true) (by kernel_rfl) ?_ ?_
    · rintro w' ⟨s1, s2, s3⟩
      try go_simp
    refine wpHeld_cons (.bool true) (by kernel_rfl) ?_ ?_
    · rintro w' ⟨s1, s2, s3⟩
      try go_simp
    refine wpHeld_cons (.bool true) (by kernel_rfl) ?_ ?_
    · rintro w' ⟨s1, s2, s3⟩
      try go_simp
    refine wpHeld_nil ?_
    go_simp
    refine wpAnyH_from (fuel := 6) 16 1 (fun _ _ _ _ _ h => h) (by kernel_rfl) (by decide) (by kernel_rfl) (⟨blk_below H7.out.2.2.1 K3.out (blk_lt H7.out.2.2.1), blk_below H7.out.2.2.2 K3.out (blk_lt H7.out.2.2.2), blk_below H7.out.2.1 K3.out (blk_lt H7.out.2.1)⟩) ?_
    simp only [List.drop_succ_cons, List.drop_zero, List.take_succ_cons, List.take_zero]
    refine wpHeld_cons (.agg #[.slice sa sn sc, .slice pa pn pc, .int .i64 lf, .bool st]) (by kernel_rfl) ?_ ?_
    · rintro w' ⟨s1, s2, s3⟩
      have y0 := blk_cell s3 0
      simp at y0
      have y1 := blk_cell s3 1
      simp at y1
      have y2 := blk_cell s3 2
      simp at y2
      have y3 := blk_cell s3 3
      simp at y3
      try go_simp
    refine wpHeld_nil ?_
    go_simp
    refine wpAnyH_from (fuel := 5) 18 1 (fun _ _ _ _ _ h => h) (by kernel_rfl) (by decide) (by kernel_rfl) (⟨blk_below H7.out.2.2.1 K3.out (blk_lt H7.out.2.2.1), blk_below H7.out.2.2.2 K3.out (blk_lt H7.out.2.2.2), blk_below H7.out.2.1 K3.out (blk_lt H7.out.2.1)⟩) ?_
    simp only [List.drop_succ_cons, List.drop_zero, List.take_succ_cons, List.take_zero]
    refine wpHeld_cons (.agg #[.slice sa sn sc, .slice pa pn pc, .int .i64 lf, .bool st]) (by kernel_rfl) ?_ ?_
    · rintro w' ⟨s1, s2, s3⟩
      have y0 := blk_cell s3 0
      simp at y0
      have y1 := blk_cell s3 1
      simp at y1
      have y2 := blk_cell s3 2
      simp at y2
      have y3 := blk_cell s3 3
      simp at y3
      try go_simp
    refine wpHeld_nil ?_
    go_simp
    refine wpAnyH_one (i := 17) (by kernel_rfl) rfl (by kernel_rfl) (fun K' hK' => ?_)
    go_simp
    refine (restart_any sa sn sc pa pn pc lf st _).mono ?_
    rintro e V4 ⟨hp, hb⟩
    subst hp
    have K4 := Lib.hid (below_after K3.out hb K3.out.size)
    clear hb
    refine hK' _ _ (⟨blk_below H7.out.2.2.1 K4.out (blk_lt H7.out.2.2.1), blk_below H7.out.2.2.2 K4.out (blk_lt H7.out.2.2.2), blk_below H7.out.2.1 K4.out (blk_lt H7.out.2.1)⟩) ?_
    clear hK' K'
    go_simp
    refine wpAnyH_one (i := 19) (by kernel_rfl) rfl (by kernel_rfl) (fun K' hK' => ?_)
    go_simp
    refine (rrestart_any sa sn sc pa pn pc lf st _).mono ?_
    rintro e V5 ⟨hp, hb⟩
    subst hp
    have K5 := Lib.hid (below_after K4.out hb K4.out.size)
    clear hb
    refine hK' _ _ (⟨blk_below H7.out.2.2.1 K5.out (blk_lt H7.out.2.2.1), blk_below H7.out.2.2.2 K5.out (blk_lt H7.out.2.2.2), blk_below H7.out.2.1 K5.out (blk_lt H7.out.2.1)⟩) ?_
    clear hK' K'
    go_simp
    refine wpAnyH_one (i := 20) (by kernel_rfl) rfl (by kernel_rfl) (fun K' hK' => ?_)
    go_simp
    refine (same_any S S [] [] (-1) false sa sa sb so sb so sn sc sc none none 0 0 0 0 0 0 0 _ (HA.out.1.below (H7.out.1.trans (K5.out.mono H7.out.1.size)) (Nat.le_refl _)) (pens_nil _ _) (HA.out.1.below (H7.out.1.trans (K5.out.mono H7.out.1.size)) (Nat.le_refl _)) (pens_nil _ _) (by omega) (by omega) (fun i hi => rfl) (fun i hi => by omega)).mono ?_
    rintro e V6 ⟨hp, hb⟩
    subst hp
    have K6 := Lib.hid (below_after K5.out hb K5.out.size)
    clear hb
    refine hK' _ _ (⟨blk_below H7.out.2.2.1 K6.out (blk_lt H7.out.2.2.1), blk_below H7.out.2.2.2 K6.out (blk_lt H7.out.2.2.2), blk_below H7.out.2.1 K6.out (blk_lt H7.out.2.1)⟩) ?_
    clear hK' K'
    go_simp
    refine wpAnyH_from (fuel := 0) 21 2 (fun _ _ _ _ _ h => h) (by kernel_rfl) (by decide) (by kernel_rfl) (⟨blk_below H7.out.2.2.1 K6.out (blk_lt H7.out.2.2.1), blk_below H7.out.2.2.2 K6.out (blk_lt H7.out.2.2.2), blk_below H7.out.2.1 K6.out (blk_lt H7.out.2.1)⟩) ?_
    simp only [List.drop_succ_cons, List.drop_zero, List.take_succ_cons, List.take_zero]
    refine wpHeld_cons (.bool true) (by kernel_rfl) ?_ ?_
    · rintro w' ⟨s1, s2, s3⟩
      try go_simp
    refine wpHeld_cons (.bool true) (by kernel_rfl) ?_ ?_
    · rintro w' ⟨s1, s2, s3⟩
      try go_simp
    refine wpHeld_nil ?_
    go_simp
    refine wpAnyH_done (by kernel_rfl) ?_ _
    refine NoPanic.normal ?_
    go_simp
    have HFin := Lib.hid (H7.out.1.trans (K6.out.mono H7.out.1.size))
    go_wp2
    go_ret
    exact ⟨rfl, HFin.out⟩
  obtain ⟨m, rfl⟩ := Int.eq_ofNat_of_zero_le (a := n) (by omega)
  have HN := Lib.hid (show 1 ≤ m ∧ m ≤ 4096 by omega)
  clear h1
  have xd0 := blk_cell H2.out.2 0
  have xd1 := blk_cell H2.out.2 1
  have xd2 := blk_cell H2.out.2 2
  have xd3 := blk_cell H2.out.2 3
  go_wp2_with fail
  clear xd0 xd1 xd2 xd3
  refine (few_all S P lf st sa sb so sn sc pa pb po pn pc _ (HA.out.1.below H2.out.1 (Nat.le_refl _)) (HA.out.2.below H2.out.1 (Nat.le_refl _)) (by omega) (by omega)).mono ?_
  rintro e W3 ⟨hp, hb⟩
  obtain ⟨r, rfl⟩ := hp
  have H3 := Lib.hid (show _ ∧ _ from ⟨below_after H2.out.1 hb H2.out.1.size, blk_below H2.out.2 hb (blk_lt H2.out.2)⟩)
  clear hb
  cases r
  case false =>
    go_wp2
    go_ret
    exact ⟨rfl, H3.out.1⟩
  go_wp2_with fail
  refine (new_any (m : Int) _).mono ?_
  rintro e W4 ⟨hp, hb⟩
  obtain ⟨b, cap, L, hcap, rfl, hS1, hz1, -, -⟩ := hp.s.ok HN.out.1 HN.out.2
  have H4 := Lib.hid (show _ ∧ _ ∧ _ ∧ _ from ⟨below_after H3.out.1 hb H3.out.1.size, blk_below H3.out.2 hb (blk_lt H3.out.2), hS1, hz1⟩)
  clear hb
  go_upto_region 6 with fail
  have H5 := Lib.hid (show _ ∧ _ ∧ _ ∧ _ ∧ _ from ⟨below_after H4.out.1 ((Below.refl W4.heap.size W4).alloc (Nat.le_refl _) (.cells #[.slice (some ⟨b, 0, none⟩) m cap, .slice none 0 0, .int .i64 (-1), .bool false] 25)) H4.out.1.size, blk_below H4.out.2.1 ((Below.refl W4.heap.size W4).alloc (Nat.le_refl _) (.cells #[.slice (some ⟨b, 0, none⟩) m cap, .slice none 0 0, .int .i64 (-1), .bool false] 25)) (blk_lt H4.out.2.1), H4.out.2.2.1.below ((Below.refl W4.heap.size W4).alloc (Nat.le_refl _) (.cells #[.slice (some ⟨b, 0, none⟩) m cap, .slice none 0 0, .int .i64 (-1), .bool false] 25)) (Nat.le_refl _), H4.out.2.2.2, blk_new W4 (.cells #[.slice (some ⟨b, 0, none⟩) m cap, .slice none 0 0, .int .i64 (-1), .bool false] 25)⟩)
  have hzW5 : W4.heap.size < (W4.alloc (.cells #[.slice (some ⟨b, 0, none⟩) m cap, .slice none 0 0, .int .i64 (-1), .bool false] 25)).heap.size := by simp
  generalize W4.alloc (.cells #[.slice (some ⟨b, 0, none⟩) m cap, .slice none 0 0, .int .i64 (-1), .bool false] 25) = W5 at *
  go_wp2_with fail
  refine (rnew_any (m : Int) _).mono ?_
  rintro e W6 ⟨hp, hb⟩
  obtain ⟨b2, cap2, L2, hcap2, rfl, hS2, hz2, -, -⟩ := hp.ok HN.out.1 HN.out.2
  have H6 := Lib.hid (show _ ∧ _ ∧ _ ∧ _ ∧ _ ∧ _ ∧ _ from ⟨below_after H5.out.1 hb H5.out.1.size, blk_below H5.out.2.1 hb (blk_lt H5.out.2.1), H5.out.2.2.1.below hb (Nat.le_refl _), H5.out.2.2.2.1, blk_below H5.out.2.2.2.2 hb (blk_lt H5.out.2.2.2.2), hS2, hz2⟩)
  clear hb
  go_upto_region 7 with fail
  have H7 := Lib.hid (show _ ∧ _ ∧ _ ∧ _ ∧ _ ∧ _ ∧ _ ∧ _ from ⟨below_after H6.out.1 ((Below.refl W6.heap.size W6).alloc (Nat.le_refl _) (.cells #[.slice (some ⟨b2, 0, none⟩) m cap2, .slice none 0 0, .int .i64 (-1), .bool false] 25)) H6.out.1.size, blk_below H6.out.2.1 ((Below.refl W6.heap.size W6).alloc (Nat.le_refl _) (.cells #[.slice (some ⟨b2, 0, none⟩) m cap2, .slice none 0 0, .int .i64 (-1), .bool false] 25)) (blk_lt H6.out.2.1), H6.out.2.2.1.below ((Below.refl W6.heap.size W6).alloc (Nat.le_refl _) (.cells #[.slice (some ⟨b2, 0, none⟩) m cap2, .slice none 0 0, .int .i64 (-1), .bool false] 25)) (Nat.le_refl _), H6.out.2.2.2.1, blk_below H6.out.2.2.2.2.1 ((Below.refl W6.heap.size W6).alloc (Nat.le_refl _) (.cells #[.slice (some ⟨b2, 0, none⟩) m cap2, .slice none 0 0, .int .i64 (-1), .bool false] 25)) (blk_lt H6.out.2.2.2.2.1), H6.out.2.2.2.2.2.1.below ((Below.refl W6.heap.size W6).alloc (Nat.le_refl _) (.cells #[.slice (some ⟨b2, 0, none⟩) m cap2, .slice none 0 0, .int .i64 (-1), .bool false] 25)) (Nat.le_refl _), H6.out.2.2.2.2.2.2, blk_new W6 (.cells #[.slice (some ⟨b2, 0, none⟩) m cap2, .slice none 0 0, .int .i64 (-1), .bool false] 25)⟩)
  have hzW7 : W6.heap.size < (W6.alloc (.cells #[.slice (some ⟨b2, 0, none⟩) m cap2, .slice none 0 0, .int .i64 (-1), .bool false] 25)).heap.size := by simp
  generalize W6.alloc (.cells #[.slice (some ⟨b2, 0, none⟩) m cap2, .slice none 0 0, .int .i64 (-1), .bool false] 25) = W7 at *
  refine wp_region_from 0 2 (fun w' => w'.heap[W4.heap.size]? = some (.cells #[.slice (some ⟨b, 0, none⟩) m cap, .slice none 0 0, .int .i64 (-1), .bool false] 25 (0, 0)) ∧ w'.heap[W6.heap.size]? = some (.cells #[.slice (some ⟨b2, 0, none⟩) m cap2, .slice none 0 0, .int .i64 (-1), .bool false] 25 (0, 0)) ∧ w'.heap[w.heap.size]? = some (.cells #[.slice sa sn sc, .slice pa pn pc, .int .i64 lf, .bool st] 25 (0, 0))) (by kernel_rfl) (by kernel_rfl) (by decide) (by kernel_rfl) (⟨blk_below H7.out.2.2.2.2.1 ((Below.refl W7.heap.size W7).drew) (blk_lt H7.out.2.2.2.2.1), blk_below H7.out.2.2.2.2.2.2.2 ((Below.refl W7.heap.size W7).drew) (blk_lt H7.out.2.2.2.2.2.2.2), blk_below H7.out.2.1 ((Below.refl W7.heap.size W7).drew) (blk_lt H7.out.2.1)⟩) ?_
  simp only [List.drop_zero, List.take_succ_cons, List.take_zero]
  refine wpHeld_cons (.agg #[.slice (some ⟨b, 0, none⟩) m cap, .slice none 0 0, .int .i64 (-1), .bool false]) (by kernel_rfl) ?_ ?_
  · rintro w' ⟨s1, s2, s3⟩
    have y0 := blk_cell s1 0
    simp at y0
    have y1 := blk_cell s1 1
    simp at y1
    have y2 := blk_cell s1 2
    simp at y2
    have y3 := blk_cell s1 3
    simp at y3
    try go_simp
  refine wpHeld_cons (.agg #[.slice (some ⟨b2, 0, none⟩) m cap2, .slice none 0 0, .int .i64 (-1), .bool false]) (by kernel_rfl) ?_ ?_
  · rintro w' ⟨s1, s2, s3⟩
    have y0 := blk_cell s2 0
    simp at y0
    have y1 := blk_cell s2 1
    simp at y1
    have y2 := blk_cell s2 2
    simp at y2
    have y3 := blk_cell s2 3
    simp at y3
    try go_simp
  refine wpHeld_nil ?_
  go_simp
  refine wpAnyH_one (i := 2) (by kernel_rfl) rfl (by kernel_rfl) (fun K' hK' => ?_)
  go_simp
  refine (same_any L L2 [] [] (-1) false (some ⟨b, 0, none⟩) (some ⟨b2, 0, none⟩) b 0 b2 0 m cap cap2 none none 0 0 0 0 0 0 0 _ (H7.out.2.2.1.below ((Below.refl W7.heap.size W7).drew) (Nat.le_refl _)) (pens_nil _ _) (H7.out.2.2.2.2.2.1.below ((Below.refl W7.heap.size W7).drew) (Nat.le_refl _)) (pens_nil _ _) (by have := HN.out; omega) (by omega) (fun i hi => by rw [H7.out.2.2.2.1 i hi, H7.out.2.2.2.2.2.2.1 i hi]) (fun i hi => by omega)).mono ?_
  rintro e V1 ⟨hp, hb⟩
  subst hp
  have K1 := Lib.hid (below_after ((Below.refl W7.heap.size W7).drew) hb ((Below.refl W7.heap.size W7).drew).size)
  clear hb
  refine hK' _ _ (⟨blk_below H7.out.2.2.2.2.1 K1.out (blk_lt H7.out.2.2.2.2.1), blk_below H7.out.2.2.2.2.2.2.2 K1.out (blk_lt H7.out.2.2.2.2.2.2.2), blk_below H7.out.2.1 K1.out (blk_lt H7.out.2.1)⟩) ?_
  clear hK' K'
  go_simp
  refine wpAnyH_from (fuel := 14) 3 6 (fun _ _ _ _ _ h => h) (by kernel_rfl) (by decide) (by kernel_rfl) (⟨blk_below H7.out.2.2.2.2.1 K1.out (blk_lt H7.out.2.2.2.2.1), blk_below H7.out.2.2.2.2.2.2.2 K1.out (blk_lt H7.out.2.2.2.2.2.2.2), blk_below H7.out.2.1 K1.out (blk_lt H7.out.2.1)⟩) ?_
  simp only [List.drop_succ_cons, List.drop_zero, List.take_succ_cons, List.take_zero]
  refine wpHeld_cons (.bool true) (by kernel_rfl) ?_ ?_
  · rintro w' ⟨s1, s2, s3⟩
    try go_simp
  refine wpHeld_cons (.int .i64 0) (by kernel_rfl) ?_ ?_
  · rintro w' ⟨s1, s2, s3⟩
    try go_simp
  refine wpHeld_cons (.int .i64 0) (by kernel_rfl) ?_ ?_
  · rintro w' ⟨s1, s2, s3⟩
    try go_simp
  refine wpHeld_cons (.bool true) (by kernel_rfl) ?_ ?_
  · rintro w' ⟨s1, s2, s3⟩
    try go_simp
  refine wpHeld_cons (.bool true) (by kernel_rfl) ?_ ?_
  · rintro w' ⟨s1, s2, s3⟩
    try go_simp
  refine wpHeld_cons (.bool true) (by kernel_rfl) ?_ ?_
  · rintro w' ⟨s1, s2, s3⟩
    try go_simp
  refine wpHeld_nil ?_
  go_simp
  refine wpAnyH_from (fuel := 13) 9 1 (fun _ _ _ _ _ h => h) (by kernel_rfl) (by decide) (by kernel_rfl) (⟨blk_below H7.out.2.2.2.2.1 K1.out (blk_lt H7.out.2.2.2.2.1), blk_below H7.out.2.2.2.2.2.2.2 K1.out (blk_lt H7.out.2.2.2.2.2.2.2), blk_below H7.out.2.1 K1.out (blk_lt H7.out.2.1)⟩) ?_
  simp only [List.drop_succ_cons, List.drop_zero, List.take_succ_cons, List.take_zero]
  refine wpHeld_cons (.agg #[.slice sa sn sc, .slice pa pn pc, .int .i64 lf, .bool st]) (by kernel_rfl) ?_ ?_
  · rintro w' ⟨s1, s2, s3⟩
    have y0 := blk_cell s3 0
    simp at y0
    have y1 := blk_cell s3 1
    simp at y1
    have y2 := blk_cell s3 2
    simp at y2
    have y3 := blk_cell s3 3
    simp at y3
    try go_simp
  refine wpHeld_nil ?_
  go_simp
  refine wpAnyH_from (fuel := 12) 11 1 (fun _ _ _ _ _ h => h) (by kernel_rfl) (by decide) (by kernel_rfl) (⟨blk_below H7.out.2.2.2.2.1 K1.out (blk_lt H7.out.2.2.2.2.1), blk_below H7.out.2.2.2.2.2.2.2 K1.out (blk_lt H7.out.2.2.2.2.2.2.2), blk_below H7.out.2.1 K1.out (blk_lt H7.out.2.1)⟩) ?_
  simp only [List.drop_succ_cons, List.drop_zero, List.take_succ_cons, List.take_zero]
  refine wpHeld_cons (.agg #[.slice sa sn sc, .slice pa pn pc, .int .i64 lf, .bool st]) (by kernel_rfl) ?_ ?_
  · rintro w' ⟨s1, s2, s3⟩
    have y0 := blk_cell s3 0
    simp at y0
    have y1 := blk_cell s3 1
    simp at y1
    have y2 := blk_cell s3 2
    simp at y2
    have y3 := blk_cell s3 3
    simp at y3
    try go_simp
  refine wpHeld_nil ?_
  go_simp
  refine wpAnyH_one (i := 10) (by kernel_rfl) rfl (by kernel_rfl) (fun K' hK' => ?_)
  go_simp
  refine (check_any S P lf st sa sb so sn sc pa pb po pn pc _ (HA.out.1.below (H7.out.1.trans (K1.out.mono H7.out.1.size)) (Nat.le_refl _)) (HA.out.2.below (H7.out.1.trans (K1.out.mono H7.out.1.size)) (Nat.le_refl _)) (by omega) (by omega)).mono ?_
  rintro e V2 ⟨hp, hb⟩
  subst hp
  have K2 := Lib.hid (below_after K1.out hb K1.out.size)
  clear hb
  refine hK' _ _ (⟨blk_below H7.out.2.2.2.2.1 K2.out (blk_lt H7.out.2.2.2.2.1), blk_below H7.out.2.2.2.2.2.2.2 K2.out (blk_lt H7.out.2.2.2.2.2.2.2), blk_below H7.out.2.1 K2.out (blk_lt H7.out.2.1)⟩) ?_
  clear hK' K'
  go_simp
  refine wpAnyH_one (i := 12) (by kernel_rfl) rfl (by kernel_rfl) (fun K' hK' => ?_)
  go_simp
  refine (rcheck_any S P lf st sa sb so sn sc pa pb po pn pc _ (HA.out.1.below (H7.out.1.trans (K2.out.mono H7.out.1.size)) (Nat.le_refl _)) (HA.out.2.below (H7.out.1.trans (K2.out.mono H7.out.1.size)) (Nat.le_refl _)) (by omega) (by omega)).mono ?_
  rintro e V3 ⟨hp, hb⟩
  subst hp
  have K3 := Lib.hid (below_after K2.out hb K2.out.size)
  clear hb
  refine hK' _ _ (⟨blk_below H7.out.2.2.2.2.1 K3.out (blk_lt H7.out.2.2.2.2.1), blk_below H7.out.2.2.2.2.2.2.2 K3.out (blk_lt H7.out.2.2.2.2.2.2.2), blk_below H7.out.2.1 K3.out (blk_lt H7.out.2.1)⟩) ?_
  clear hK' K'
  go_simp
  refine wpAnyH_from (fuel := 7) 13 3 (fun _ _ _ _ _ h => h) (by kernel_rfl) (by decide) (by kernel_rfl) (⟨blk_below H7.out.2.2.2.2.1 K3.out (blk_lt H7.out.2.2.2.2.1), blk_below H7.out.2.2.2.2.2.2.2 K3.out (blk_lt H7.out.2.2.2.2.2.2.2), blk_below H7.out.2.1 K3.out (blk_lt H7.out.2.1)⟩) ?_
  simp only [List.drop_succ_cons, List.drop_zero, List.take_succ_cons, List.take_zero]
  refine wpHeld_cons (.bool true) (by kernel_rfl) ?_ ?_
  · rintro w' ⟨s1, s2, s3⟩
    try go_simp
  refine wpHeld_cons (.bool true) (by kernel_rfl) ?_ ?_
  · rintro w' ⟨s1, s2, s3⟩
    try go_simp
  refine wpHeld_cons (.bool true) (by kernel_rfl) ?_ ?_
  · rintro w' ⟨s1, s2, s3⟩
    try go_simp
  refine wpHeld_nil ?_
  go_simp
  refine wpAnyH_from (fuel := 6) 16 1 (fun _ _ _ _ _ h => h) (by kernel_rfl) (by decide) (by kernel_rfl) (⟨blk_below H7.out.2.2.2.2.1 K3.out (blk_lt H7.out.2.2.2.2.1), blk_below H7.out.2.2.2.2.2.2.2 K3.out (blk_lt H7.out.2.2.2.2.2.2.2), blk_below H7.out.2.1 K3.out (blk_lt H7.out.2.1)⟩) ?_
  simp only [List.drop_succ_cons, List.drop_zero, List.take_succ_cons, List.take_zero]
  refine wpHeld_cons (.agg #[.slice sa sn sc, .slice pa pn pc, .int .i64 lf, .bool st]) (by kernel_rfl) ?_ ?_
  · rintro w' ⟨s1, s2, s3⟩
    have y0 := blk_cell s3 0
    simp at y0
    have y1 := blk_cell s3 1
    simp at y1
    have y2 := blk_cell s3 2
    simp at y2
    have y3 := blk_cell s3 3
    simp at y3
    try go_simp
  refine wpHeld_nil ?_
  go_simp
  refine wpAnyH_from (fuel := 5) 18 1 (fun _ _ _ _ _ h => h) (by kernel_rfl) (by decide) (by kernel_rfl) (⟨blk_below H7.out.2.2.2.2.1 K3.out (blk_lt H7.out.2.2.2.2.1), blk_below H7.out.2.2.2.2.2.2.2 K3.out (blk_lt H7.out.2.2.2.2.2.2.2), blk_below H7.out.2.1 K3.out (blk_lt H7.out.2.1)⟩) ?_
  simp only [List.drop_succ_cons, List.drop_zero, List.take_succ_cons, List.take_zero]
  refine wpHeld_cons (.agg #[.slice sa sn sc, .slice pa pn pc, .int .i64 lf, .bool st]) (by kernel_rfl) ?_ ?_
  · rintro w' ⟨s1, s2, s3⟩
    have y0 := blk_cell s3 0
    simp at y0
    have y1 := blk_cell s3 1
    simp at y1
    have y2 := blk_cell s3 2
    simp at y2
    have y3 := blk_cell s3 3
    simp at y3
    try go_simp
  refine wpHeld_nil ?_
  go_simp
  refine wpAnyH_one (i := 17) (by kernel_rfl) rfl (by kernel_rfl) (fun K' hK' => ?_)
  go_simp
  refine (restart_any sa sn sc pa pn pc lf st _).mono ?_
  rintro e V4 ⟨hp, hb⟩
  subst hp
  have K4 := Lib.hid (below_after K3.out hb K3.out.size)
  clear hb
  refine hK' _ _ (⟨blk_below H7.out.2.2.2.2.1 K4.out (blk_lt H7.out.2.2.2.2.1), blk_below H7.out.2.2.2.2.2.2.2 K4.out (blk_lt H7.out.2.2.2.2.2.2.2), blk_below H7.out.2.1 K4.out (blk_lt H7.out.2.1)⟩) ?_
  clear hK' K'
  go_simp
  refine wpAnyH_one (i := 19) (by kernel_rfl) rfl (by kernel_rfl) (fun K' hK' => ?_)
  go_simp
  refine (rrestart_any sa sn sc pa pn pc lf st _).mono ?_
  rintro e V5 ⟨hp, hb⟩
  subst hp
  have K5 := Lib.hid (below_after K4.out hb K4.out.size)
  clear hb
  refine hK' _ _ (⟨blk_below H7.out.2.2.2.2.1 K5.out (blk_lt H7.out.2.2.2.2.1), blk_below H7.out.2.2.2.2.2.2.2 K5.out (blk_lt H7.out.2.2.2.2.2.2.2), blk_below H7.out.2.1 K5.out (blk_lt H7.out.2.1)⟩) ?_
  clear hK' K'
  go_simp
  refine wpAnyH_one (i := 20) (by kernel_rfl) rfl (by kernel_rfl) (fun K' hK' => ?_)
  go_simp
  refine (same_any S S [] [] (-1) false sa sa sb so sb so sn sc sc none none 0 0 0 0 0 0 0 _ (HA.out.1.below (H7.out.1.trans (K5.out.mono H7.out.1.size)) (Nat.le_refl _)) (pens_nil _ _) (HA.out.1.below (H7.out.1.trans (K5.out.mono H7.out.1.size)) (Nat.le_refl _)) (pens_nil _ _) (by omega) (by omega) (fun i hi => rfl) (fun i hi => by omega)).mono ?_
  rintro e V6 ⟨hp, hb⟩
  subst hp
  have K6 := Lib.hid (below_after K5.out hb K5.out.size)
  clear hb
  refine hK' _ _ (⟨blk_below H7.out.2.2.2.2.1 K6.out (blk_lt H7.out.2.2.2.2.1), blk_below H7.out.2.2.2.2.2.2.2 K6.out (blk_lt H7.out.2.2.2.2.2.2.2), blk_below H7.out.2.1 K6.out (blk_lt H7.out.2.1)⟩) ?_
  clear hK' K'
  go_simp
  refine wpAnyH_from (fuel := 0) 21 2 (fun _ _ _ _ _ h => h) (by kernel_rfl) (by decide) (by kernel_rfl) (⟨blk_below H7.out.2.2.2.2.1 K6.out (blk_lt H7.out.2.2.2.2.1), blk_below H7.out.2.2.2.2.2.2.2 K6.out (blk_lt H7.out.2.2.2.2.2.2.2), blk_below H7.out.2.1 K6.out (blk_lt H7.out.2.1)⟩) ?_
  simp only [List.drop_succ_cons, List.drop_zero, List.take_succ_cons, List.take_zero]
  refine wpHeld_cons (.bool true) (by kernel_rfl) ?_ ?_
  · rintro w' ⟨s1, s2, s3⟩
    try go_simp
  refine wpHeld_cons (.bool true) (by kernel_rfl) ?_ ?_
  · rintro w' ⟨s1, s2, s3⟩
    try go_simp
  refine wpHeld_nil ?_
  go_simp
  refine wpAnyH_done (by kernel_rfl) ?_ _
  refine NoPanic.normal ?_
  go_simp
  have HFin := Lib.hid (H7.out.1.trans (K6.out.mono H7.out.1.size))
  go_wp2
  go_ret
  exact ⟨rfl, HFin.out⟩
end Go.Proofs.Ytbimmahlcceadaa
