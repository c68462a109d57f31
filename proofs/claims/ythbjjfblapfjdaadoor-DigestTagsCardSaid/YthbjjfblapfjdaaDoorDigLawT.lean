/- DigestTags (layer 2). -/
import Derived.Test.YthbjjfblapfjdaaDoorDigSane
namespace Go.Proofs.YthbjjfblapfjdaaDoor
open Go.ChangeShapes Go.WideShapes Go.ChangeAt Go.RowKit
set_option maxRecDepth 100000 in
set_option maxHeartbeats 4000000 in
theorem tags_walk (s : ByteArray) (a : Option Addr) (b off n cap : Nat) (l : List Int) (w : World) (hK : Keys w) (hR : RowB w a b off n l) (hnc : a = none → cap = 0) :
    Calls Tryd.prog 5 #[.string s, .slice a n cap] w fun e w' => e = .returned (.bool true) ∧ Below w.heap.size w w' := by
  have kc := fun (W : World) => run_bytes_of_string (P := Tryd.prog) W 9 22 5 s Tryd.underlying9 Tryd.underlying22 Tryd.underlying5
  by_cases h1 : 600 < s.size
  · have i1 : (s.size : Int) > 600 := by omega
    clear hR
    go_enter Tryd.func5, Tryd.ntmps5
    go_wp2_with (go_at_call 11; refine (sane_any _ hK).mono ?_; rintro e WS ⟨rfl, hbS⟩)
    go_wp2
    go_ret
    exact ⟨rfl, hbS⟩
  by_cases h2 : 600 < n
  · have i1 : ¬ (s.size : Int) > 600 := by omega
    have i2 : (n : Int) > 600 := by omega
    clear hR
    go_enter Tryd.func5, Tryd.ntmps5
    go_wp2_with (go_at_call 11; refine (sane_any _ hK).mono ?_; rintro e WS ⟨rfl, hbS⟩)
    go_wp2
    go_ret
    exact ⟨rfl, hbS⟩
  have i1 : ¬ (600 : Int) < (s.size : Int) := by omega
  have i2 : ¬ (600 : Int) < (n : Int) := by omega
  have HR := Lib.hid (show _ ∧ _ from ⟨hR, hK⟩)
  clear hR hK
  go_enter Tryd.func5, Tryd.ntmps5
  go_wp2_with (go_at_call 11; refine (sane_any _ HR.out.2).mono ?_; rintro e WS ⟨rfl, hbS⟩)
  go_upto_region 5 with fail
  go_wp2_with fail
  have hbs := blk_drew (blk_new WS (.cells (bytesRow s (grownCap WS s.size 0 5)) 5 ((bytesRow s (grownCap WS s.size 0 5)).size, (bytesRow s (grownCap WS s.size 0 5)).size + 1)))
  have hbB := ((Below.refl WS.heap.size WS).alloc (Nat.le_refl _) (.cells (bytesRow s (grownCap WS s.size 0 5)) 5 ((bytesRow s (grownCap WS s.size 0 5)).size, (bytesRow s (grownCap WS s.size 0 5)).size + 1))).drew
  have hKS := HR.out.2.below hbS
  refine (sum_any _ WS.heap.size 0 s.size _ (strL s) _ (hKS.below hbB) (RowB.of_str hbs) (grownCap_ge _ _ _ _) (by omega)).mono ?_
  rintro e WP ⟨rfl, hbP⟩
  have hB2 := hbS.trans ((hbB.trans (hbP.mono hbB.size)).mono hbS.size)
  have HP := Lib.hid (show Below w.heap.size w WP from hB2)
  clear hbs hbB hbP hB2 hKS hbS kc
  go_wp2_with (with_reducible refine held (o := ⟨none, _, _, _, _, _⟩) ?_)
  unfold Held
  refine wpList_store_row rfl 26 (.tmp 5) (.tmp 18) rfl WP.heap.size (dgV (sumS (strL s))) (by kernel_rfl) (by kernel_rfl) 26 _ (blk_new _ _) (by rw [dgV_size]; kernel_rfl) (by rw [dgV_size]; rfl) (dgV_one _) ?_
  rw [World.setRow_alloc_new]
  have ht3 := blk_new WP (.cells (dgV (sumS (strL s))) 26)
  have hB3 := HP.out.alloc HP.out.size (.cells (dgV (sumS (strL s))) 26)
  generalize WP.alloc (.cells (dgV (sumS (strL s))) 26) = W1 at *
  have HT := Lib.hid (show W1.heap[WP.heap.size]? = _ ∧ Below w.heap.size w W1 ∧ Keys W1 from ⟨ht3, hB3, HR.out.2.below hB3⟩)
  clear ht3 hB3
  go_simp
  go_upto_region 6 with fail
  refine wp_region_from 0 2 (fun w' => Below W1.heap.size W1 w') (by kernel_rfl) (by kernel_rfl) (by decide) (by kernel_rfl) ((Below.refl _ _).drew) ?_
  simp only [List.drop_zero, List.take_succ_cons, List.take_zero]
  refine wpHeld_cons (.string s) (by kernel_rfl) ?_ ?_
  · rintro w' -
    try go_simp
  refine wpHeld_cons (.slice a n cap) (by kernel_rfl) ?_ ?_
  · rintro w' -
    try go_simp
  refine wpHeld_nil ?_
  refine wpAnyH_from (fuel := 8) 4 1 (fun _ _ _ _ _ h => h) (by kernel_rfl) (by decide) (by kernel_rfl) ((Below.refl _ _).drew) ?_
  simp only [List.drop_succ_cons, List.drop_zero, List.take_succ_cons, List.take_zero]
  refine wpHeld_cons (.slice (some ⟨WP.heap.size, 0, none⟩) 32 32) (by kernel_rfl) ?_ ?_
  · rintro w' -
    try go_simp
  refine wpHeld_nil ?_
  refine wpAnyH_from (fuel := 7) 6 1 (fun _ _ _ _ _ h => h) (by kernel_rfl) (by decide) (by kernel_rfl) ((Below.refl _ _).drew) ?_
  simp only [List.drop_succ_cons, List.drop_zero, List.take_succ_cons, List.take_zero]
  refine wpHeld_cons (.slice a n cap) (by kernel_rfl) ?_ ?_
  · rintro w' -
    try go_simp
  refine wpHeld_nil ?_
  go_simp
  refine wpAnyH_two (i := 2) (j := 3) (by kernel_rfl) rfl rfl (by kernel_rfl) (by kernel_rfl) (fun K' hK' => ?_) (fun K' hK' => ?_)
  · go_simp
    have hb0 : Below W1.heap.size W1 W1.drew := (Below.refl _ _).drew
    refine (tagged_any s a b off n cap l _ (HT.out.2.2.below hb0) (HR.out.1.below (HT.out.2.1.trans (hb0.mono HT.out.2.1.size)) (Nat.le_refl _)) hnc (by omega) (by omega)).mono ?_
    rintro e W2 ⟨rfl, hb2⟩
    rw [bV_dg]
    have HX := Lib.hid (show Below W1.heap.size W1 W2 from below_after hb0 hb2 (Nat.le_refl _))
    clear hb0 hb2
    refine hK' _ _ (HX.out) ?_
    clear hK' K'
    go_simp
    refine wpAnyH_one (i := 3) (by kernel_rfl) rfl (by kernel_rfl) (fun K' hK' => ?_)
    go_simp
    have hby := (Byts.empty W2).mono (B' := W1.heap.size) HX.out.size
    have hbe := HX.out.alloc HX.out.size (.cells #[] 5)
    generalize W2.alloc (.cells #[] 5) = W3 at *
    have HY := Lib.hid (show Below W1.heap.size W1 W3 ∧ Byts W3 W1.heap.size _ [] from ⟨hbe, hby⟩)
    clear hby hbe
    refine hK' _ _ (HY.out.1) ?_
    clear hK' K'
    go_simp
    refine wpAnyH_one (i := 5) (by kernel_rfl) rfl (by kernel_rfl) (fun K' hK' => ?_)
    refine wp_append_brow (.tmp 22) (.tmp 23) rfl W1.heap.size _ [] (by kernel_rfl) HY.out.2 _ (WP.heap.size) 0 32 32 (dgL (sumS (strL s))) (by kernel_rfl) (RowB.of_dg (blk_below HT.out.1 HY.out.1 (Array.getElem?_eq_some_iff.1 HT.out.1).1)) (fun h => by cases h) (by decide) HY.out.1.size ?_
    intro v5 W5 hO5 hb5 _
    have HX5 := Lib.hid (show Below W1.heap.size W1 W5 ∧ Byts W5 W1.heap.size v5 (dgL (sumS (strL s))) from ⟨below_trans' HY.out.1 hb5, hO5⟩)
    clear hO5 hb5
    refine hK' _ _ (HX5.out.1) ?_
    clear hK' K'
    go_simp
    refine wpAnyH_one (i := 7) (by kernel_rfl) rfl (by kernel_rfl) (fun K' hK' => ?_)
    refine wp_append_brow (.tmp 24) (.tmp 25) (by kernel_rfl) W1.heap.size v5 (dgL (sumS (strL s))) (by kernel_rfl) HX5.out.2 a b off n cap l (by kernel_rfl) (HR.out.1.below (HT.out.2.1.trans (HX5.out.1.mono HT.out.2.1.size)) (Nat.le_refl _)) hnc (by rw [dgL_len]; omega) HX5.out.1.size ?_
    intro v6 W6 hO6 hb6 _
    have HX6 := Lib.hid (show Below W1.heap.size W1 W6 ∧ Byts W6 W1.heap.size v6 (dgL (sumS (strL s)) ++ l) from ⟨below_trans' HX5.out.1 hb6, hO6⟩)
    clear hO6 hb6 HX5
    refine hK' _ _ (HX6.out.1) ?_
    clear hK' K'
    go_simp
    obtain ⟨a6, b6, c6, rfl, hR6, hc6, _⟩ := HX6.out.2.row
    have hl6 : (dgL (sumS (strL s)) ++ l).length = 32 + n := by rw [List.length_append, dgL_len, HR.out.1.len]
    rw [hl6] at hR6 hc6 ⊢
    refine wpAnyH_one (i := 8) (by kernel_rfl) rfl (by kernel_rfl) (fun K' hK' => ?_)
    go_simp
    refine (sum_any a6 b6 0 (32 + n) c6 (dgL (sumS (strL s)) ++ l) W6 (HT.out.2.2.below HX6.out.1) hR6 hc6 (by omega)).mono ?_
    rintro e W7 ⟨rfl, hb7⟩
    rw [bV_dg, show sumS (dgL (sumS (strL s)) ++ l) = tagS s l from rfl]
    have HX7 := Lib.hid (show Below W1.heap.size W1 W7 from below_after HX6.out.1 hb7 HX6.out.1.size)
    clear hb7
    refine hK' _ _ (HX7.out) ?_
    clear hK' K'
    go_simp
    refine wpAnyH_from (fuel := 0) 9 2 (fun _ _ _ _ _ h => h) (by kernel_rfl) (by decide) (by kernel_rfl) (HX7.out) ?_
    simp only [List.drop_succ_cons, List.drop_zero, List.take_succ_cons, List.take_zero]
    refine wpHeld_cons (.bool true) (by kernel_rfl) ?_ ?_
    · rintro w' -
      try go_simp
      rw [run_eq_D (dgL (tagS s l)) (dgL (tagS s l)) (dgL_len _) (dgL_len _), decide_eq_true rfl]
      go_simp
    refine wpHeld_cons (.bool true) (by kernel_rfl) ?_ ?_
    · rintro w' -
      try go_simp
    refine wpHeld_nil ?_
    go_simp
    refine wpAnyH_done (by kernel_rfl) ?_ _
    refine NoPanic.normal ?_
    go_simp
    go_wp2
    go_ret
    exact ⟨rfl, HT.out.2.1.trans (HX7.out.mono HT.out.2.1.size)⟩
  · go_simp
    have hby := (Byts.empty W1).drew
    have hbe := ((Below.refl W1.heap.size W1).alloc (Nat.le_refl _) (.cells #[] 5)).drew
    generalize (W1.alloc (.cells #[] 5)).drew = W3 at *
    have HX := Lib.hid (show Below W1.heap.size W1 W3 ∧ Byts W3 W1.heap.size _ [] from ⟨hbe, hby⟩)
    clear hby hbe
    refine hK' _ _ (HX.out.1) ?_
    clear hK' K'
    go_simp
    refine wpAnyH_one (i := 2) (by kernel_rfl) rfl (by kernel_rfl) (fun K' hK' => ?_)
    go_simp
    refine (tagged_any s a b off n cap l _ (HT.out.2.2.below HX.out.1) (HR.out.1.below (HT.out.2.1.trans (HX.out.1.mono HT.out.2.1.size)) (Nat.le_refl _)) hnc (by omega) (by omega)).mono ?_
    rintro e W2 ⟨rfl, hb2⟩
    rw [bV_dg]
    have HY := Lib.hid (show Below W1.heap.size W1 W2 ∧ Byts W2 W1.heap.size _ [] from ⟨below_after HX.out.1 hb2 HX.out.1.size, HX.out.2.below hb2 (Nat.le_refl _)⟩)
    clear hb2
    refine hK' _ _ (HY.out.1) ?_
    clear hK' K'
    go_simp
    refine wpAnyH_one (i := 5) (by kernel_rfl) rfl (by kernel_rfl) (fun K' hK' => ?_)
    refine wp_append_brow (.tmp 22) (.tmp 23) rfl W1.heap.size _ [] (by kernel_rfl) HY.out.2 _ (WP.heap.size) 0 32 32 (dgL (sumS (strL s))) (by kernel_rfl) (RowB.of_dg (blk_below HT.out.1 HY.out.1 (Array.getElem?_eq_some_iff.1 HT.out.1).1)) (fun h => by cases h) (by decide) HY.out.1.size ?_
    intro v5 W5 hO5 hb5 _
    have HX5 := Lib.hid (show Below W1.heap.size W1 W5 ∧ Byts W5 W1.heap.size v5 (dgL (sumS (strL s))) from ⟨below_trans' HY.out.1 hb5, hO5⟩)
    clear hO5 hb5
    refine hK' _ _ (HX5.out.1) ?_
    clear hK' K'
    go_simp
    refine wpAnyH_one (i := 7) (by kernel_rfl) rfl (by kernel_rfl) (fun K' hK' => ?_)
    refine wp_append_brow (.tmp 24) (.tmp 25) (by kernel_rfl) W1.heap.size v5 (dgL (sumS (strL s))) (by kernel_rfl) HX5.out.2 a b off n cap l (by kernel_rfl) (HR.out.1.below (HT.out.2.1.trans (HX5.out.1.mono HT.out.2.1.size)) (Nat.le_refl _)) hnc (by rw [dgL_len]; omega) HX5.out.1.size ?_
    intro v6 W6 hO6 hb6 _
    have HX6 := Lib.hid (show Below W1.heap.size W1 W6 ∧ Byts W6 W1.heap.size v6 (dgL (sumS (strL s)) ++ l) from ⟨below_trans' HX5.out.1 hb6, hO6⟩)
    clear hO6 hb6 HX5
    refine hK' _ _ (HX6.out.1) ?_
    clear hK' K'
    go_simp
    obtain ⟨a6, b6, c6, rfl, hR6, hc6, _⟩ := HX6.out.2.row
    have hl6 : (dgL (sumS (strL s)) ++ l).length = 32 + n := by rw [List.length_append, dgL_len, HR.out.1.len]
    rw [hl6] at hR6 hc6 ⊢
    refine wpAnyH_one (i := 8) (by kernel_rfl) rfl (by kernel_rfl) (fun K' hK' => ?_)
    go_simp
    refine (sum_any a6 b6 0 (32 + n) c6 (dgL (sumS (strL s)) ++ l) W6 (HT.out.2.2.below HX6.out.1) hR6 hc6 (by omega)).mono ?_
    rintro e W7 ⟨rfl, hb7⟩
    rw [bV_dg, show sumS (dgL (sumS (strL s)) ++ l) = tagS s l from rfl]
    have HX7 := Lib.hid (show Below W1.heap.size W1 W7 from below_after HX6.out.1 hb7 HX6.out.1.size)
    clear hb7
    refine hK' _ _ (HX7.out) ?_
    clear hK' K'
    go_simp
    refine wpAnyH_from (fuel := 0) 9 2 (fun _ _ _ _ _ h => h) (by kernel_rfl) (by decide) (by kernel_rfl) (HX7.out) ?_
    simp only [List.drop_succ_cons, List.drop_zero, List.take_succ_cons, List.take_zero]
    refine wpHeld_cons (.bool true) (by kernel_rfl) ?_ ?_
    · rintro w' -
      try go_simp
      rw [run_eq_D (dgL (tagS s l)) (dgL (tagS s l)) (dgL_len _) (dgL_len _), decide_eq_true rfl]
      go_simp
    refine wpHeld_cons (.bool true) (by kernel_rfl) ?_ ?_
    · rintro w' -
      try go_simp
    refine wpHeld_nil ?_
    go_simp
    refine wpAnyH_done (by kernel_rfl) ?_ _
    refine NoPanic.normal ?_
    go_simp
    go_wp2
    go_ret
    exact ⟨rfl, HT.out.2.1.trans (HX7.out.mono HT.out.2.1.size)⟩
end Go.Proofs.YthbjjfblapfjdaaDoor
