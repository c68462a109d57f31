/- DiskSyncSpec (layer 4). -/
import Derived.Test.YtbimmahlcceadaaDskSane
import Derived.Test.YtbimmahlcceadaaDskCase
import Derived.Test.YtbimmahlcceadaaDskFew0
namespace Go.Proofs.Ytbimmahlcceadaa
open Go.ChangeShapes Go.WideShapes Go.ChangeAt Go.RowKit
set_option linter.unusedVariables false in
set_option maxRecDepth 100000 in
set_option maxHeartbeats 4000000 in
theorem diskSyncSpec_walk (S : List Sl) (P : List Wr) (lf : Int) (st : Bool) (sa : Option Addr) (sb so sn sc : Nat) (pa : Option Addr) (pb po pn pc : Nat) (left : Int) (w : World) (hS : Secs w sa sb so sn S) (hP : Pens w pa pb po pn P) (hsn : sn ≤ 9223372036854775807) (hpn : pn ≤ 9223372036854775807) (hpc : pn ≤ pc) (hpz : pa = none → pc = 0) (hsz : sa = none → sc = 0)  :
    Calls Try.prog 5 #[.agg #[.slice sa sn sc, .slice pa pn pc, .int .i64 lf, .bool st], .int .i64 left] w fun e w' => e = .returned (.bool true) ∧ Below w.heap.size w w' := by
  have HA := Lib.hid (show _ ∧ _ from ⟨hS, hP⟩)
  clear hS hP 
  go_enter Try.func5, Try.ntmps5
  have HW := Lib.hid (Below.refl w.heap.size w)
  go_upto_region 1 with fail
  have H1 := Lib.hid (show _ ∧ _ from ⟨below_after HW.out ((Below.refl w.heap.size w).alloc (Nat.le_refl _) (.cells #[.slice sa sn sc, .slice pa pn pc, .int .i64 lf, .bool st] 25)) HW.out.size, blk_new w (.cells #[.slice sa sn sc, .slice pa pn pc, .int .i64 lf, .bool st] 25)⟩)
  have hzW1 : w.heap.size < (w.alloc (.cells #[.slice sa sn sc, .slice pa pn pc, .int .i64 lf, .bool st] 25)).heap.size := by simp
  generalize w.alloc (.cells #[.slice sa sn sc, .slice pa pn pc, .int .i64 lf, .bool st] 25) = W1 at *
  go_wp2_with fail
  refine (sane_any _).mono ?_
  rintro e W2 ⟨hp, hb⟩
  subst hp
  have H2 := Lib.hid (show _ ∧ _ from ⟨below_after H1.out.1 hb H1.out.1.size, blk_below H1.out.2 hb (blk_lt H1.out.2)⟩)
  clear hb
  have xd0 := blk_cell H2.out.2 0
  have xd1 := blk_cell H2.out.2 1
  have xd2 := blk_cell H2.out.2 2
  have xd3 := blk_cell H2.out.2 3
  go_wp2_with fail
  clear xd0 xd1 xd2 xd3
  refine (few_all S P lf st sa sb so sn sc pa pb po pn pc _ (HA.out.1.below H2.out.1 (Nat.le_refl _)) (HA.out.2.below H2.out.1 (Nat.le_refl _)) (by omega) (by omega)).mono ?_
  rintro e W3 ⟨hp, hb⟩
  obtain ⟨r, rfl⟩ := hp
  have H3 := Lib.hid (show _ ∧ _ from ⟨below_after H2.out.1 hb H2.out.1.size, blk_below H2.out.2 hb (blk_lt H2.out.2)⟩)
  clear hb
  cases r
  case false =>
    go_wp2
    go_ret
    exact ⟨rfl, H3.out.1⟩
  by_cases hr : runB ⟨S, P, lf, st⟩ = true
  · have HR := Lib.hid hr
    obtain rfl := runB_stp hr
    have hV := runB_valid hr
    have hl1 : -1 ≤ lf := hV.1.2.2.2.1
    have hl2 : lf ≤ 65536 := hV.1.2.2.2.2
    clear hr hV
    by_cases h1 : lf = -1 ∨ (pn : Int) ≤ lf
    · obtain ⟨G, hG⟩ : ∃ G : Int, G = if lf = -1 then -1 else lf - pn := ⟨_, rfl⟩
      have HG := Lib.hid hG
      clear hG
      by_cases hs : 0 ≤ left ∧ left ≤ 65536
      · have HS := Lib.hid hs
        clear hs
        have xd0 := blk_cell H3.out.2 0
        have xd1 := blk_cell H3.out.2 1
        have xd2 := blk_cell H3.out.2 2
        have xd3 := blk_cell H3.out.2 3
        go_wp2_with fail
        clear xd0 xd1 xd2 xd3
        refine (sync_any S P lf false sa sb so sn sc pa pb po pn pc _ (HA.out.1.below H3.out.1 (Nat.le_refl _)) (HA.out.2.below H3.out.1 (Nat.le_refl _)) (by omega) (by omega) hpc hsz).mono ?_
        rintro e W4 ⟨hp, hb⟩
        obtain ⟨b, cap, hcap, hB, hS1, he⟩ := hp.done HR.out h1
        rw [← HG.out] at he
        subst he
        have H4 := Lib.hid (show _ ∧ _ ∧ _ from ⟨below_after H3.out.1 hb H3.out.1.size, blk_below H3.out.2 hb (blk_lt H3.out.2), hS1⟩)
        clear hb
        go_upto_region 6 with fail
        have H5 := Lib.hid (show _ ∧ _ ∧ _ ∧ _ from ⟨below_after H4.out.1 ((Below.refl W4.heap.size W4).alloc (Nat.le_refl _) (.cells #[.slice (some ⟨b, 0, none⟩) sn cap, .slice none 0 0, .int .i64 G, .bool false] 25)) H4.out.1.size, blk_below H4.out.2.1 ((Below.refl W4.heap.size W4).alloc (Nat.le_refl _) (.cells #[.slice (some ⟨b, 0, none⟩) sn cap, .slice none 0 0, .int .i64 G, .bool false] 25)) (blk_lt H4.out.2.1), H4.out.2.2.below ((Below.refl W4.heap.size W4).alloc (Nat.le_refl _) (.cells #[.slice (some ⟨b, 0, none⟩) sn cap, .slice none 0 0, .int .i64 G, .bool false] 25)) (Nat.le_refl _), blk_new W4 (.cells #[.slice (some ⟨b, 0, none⟩) sn cap, .slice none 0 0, .int .i64 G, .bool false] 25)⟩)
        have hzW5 : W4.heap.size < (W4.alloc (.cells #[.slice (some ⟨b, 0, none⟩) sn cap, .slice none 0 0, .int .i64 G, .bool false] 25)).heap.size := by simp
        generalize W4.alloc (.cells #[.slice (some ⟨b, 0, none⟩) sn cap, .slice none 0 0, .int .i64 G, .bool false] 25) = W5 at *
        have xd0 := blk_cell H5.out.2.1 0
        have xd1 := blk_cell H5.out.2.1 1
        have xd2 := blk_cell H5.out.2.1 2
        have xd3 := blk_cell H5.out.2.1 3
        go_wp2_with fail
        clear xd0 xd1 xd2 xd3
        refine (rsync_any S P lf false sa sb so sn sc pa pb po pn pc _ (HA.out.1.below H5.out.1 (Nat.le_refl _)) (HA.out.2.below H5.out.1 (Nat.le_refl _)) (by omega) (by omega) hpc hsz).mono ?_
        rintro e W6 ⟨hp, hb⟩
        obtain ⟨b2, cap2, hcap2, hB2, hS2, he⟩ := hp.done HR.out h1
        rw [← HG.out] at he
        subst he
        have H6 := Lib.hid (show _ ∧ _ ∧ _ ∧ _ ∧ _ from ⟨below_after H5.out.1 hb H5.out.1.size, blk_below H5.out.2.1 hb (blk_lt H5.out.2.1), H5.out.2.2.1.below hb (Nat.le_refl _), blk_below H5.out.2.2.2 hb (blk_lt H5.out.2.2.2), hS2⟩)
        clear hb
        go_upto_region 7 with fail
        have H7 := Lib.hid (show _ ∧ _ ∧ _ ∧ _ ∧ _ ∧ _ from ⟨below_after H6.out.1 ((Below.refl W6.heap.size W6).alloc (Nat.le_refl _) (.cells #[.slice (some ⟨b2, 0, none⟩) sn cap2, .slice none 0 0, .int .i64 G, .bool false] 25)) H6.out.1.size, blk_below H6.out.2.1 ((Below.refl W6.heap.size W6).alloc (Nat.le_refl _) (.cells #[.slice (some ⟨b2, 0, none⟩) sn cap2, .slice none 0 0, .int .i64 G, .bool false] 25)) (blk_lt H6.out.2.1), H6.out.2.2.1.below ((Below.refl W6.heap.size W6).alloc (Nat.le_refl _) (.cells #[.slice (some ⟨b2, 0, none⟩) sn cap2, .slice none 0 0, .int .i64 G, .bool false] 25)) (Nat.le_refl _), blk_below H6.out.2.2.2.1 ((Below.refl W6.heap.size W6).alloc (Nat.le_refl _) (.cells #[.slice (some ⟨b2, 0, none⟩) sn cap2, .slice none 0 0, .int .i64 G, .bool false] 25)) (blk_lt H6.out.2.2.2.1), H6.out.2.2.2.2.below ((Below.refl W6.heap.size W6).alloc (Nat.le_refl _) (.cells #[.slice (some ⟨b2, 0, none⟩) sn cap2, .slice none 0 0, .int .i64 G, .bool false] 25)) (Nat.le_refl _), blk_new W6 (.cells #[.slice (some ⟨b2, 0, none⟩) sn cap2, .slice none 0 0, .int .i64 G, .bool false] 25)⟩)
        have hzW7 : W6.heap.size < (W6.alloc (.cells #[.slice (some ⟨b2, 0, none⟩) sn cap2, .slice none 0 0, .int .i64 G, .bool false] 25)).heap.size := by simp
        generalize W6.alloc (.cells #[.slice (some ⟨b2, 0, none⟩) sn cap2, .slice none 0 0, .int .i64 G, .bool false] 25) = W7 at *
        have xd0 := blk_cell H7.out.2.1 0
        have xd1 := blk_cell H7.out.2.1 1
        have xd2 := blk_cell H7.out.2.1 2
        have xd3 := blk_cell H7.out.2.1 3
        go_wp2_with fail
        clear xd0 xd1 xd2 xd3
        refine (stop_any S P lf false sa sb so sn sc pa pb po pn pc left _ (HA.out.1.below H7.out.1 (Nat.le_refl _)) (HA.out.2.below H7.out.1 (Nat.le_refl _)) (by omega) (by omega)).mono ?_
        rintro e W8 ⟨hp, hb⟩
        replace hp := hp.ok HR.out HS.out.1 HS.out.2
        subst hp
        have H8 := Lib.hid (show _ ∧ _ ∧ _ ∧ _ ∧ _ ∧ _ from ⟨below_after H7.out.1 hb H7.out.1.size, blk_below H7.out.2.1 hb (blk_lt H7.out.2.1), H7.out.2.2.1.below hb (Nat.le_refl _), blk_below H7.out.2.2.2.1 hb (blk_lt H7.out.2.2.2.1), H7.out.2.2.2.2.1.below hb (Nat.le_refl _), blk_below H7.out.2.2.2.2.2 hb (blk_lt H7.out.2.2.2.2.2)⟩)
        clear hb
        go_upto_region 8 with fail
        have H9 := Lib.hid (show _ ∧ _ ∧ _ ∧ _ ∧ _ ∧ _ ∧ _ from ⟨below_after H8.out.1 ((Below.refl W8.heap.size W8).alloc (Nat.le_refl _) (.cells #[.slice sa sn sc, .slice pa pn pc, .int .i64 left, .bool false] 25)) H8.out.1.size, blk_below H8.out.2.1 ((Below.refl W8.heap.size W8).alloc (Nat.le_refl _) (.cells #[.slice sa sn sc, .slice pa pn pc, .int .i64 left, .bool false] 25)) (blk_lt H8.out.2.1), H8.out.2.2.1.below ((Below.refl W8.heap.size W8).alloc (Nat.le_refl _) (.cells #[.slice sa sn sc, .slice pa pn pc, .int .i64 left, .bool false] 25)) (Nat.le_refl _), blk_below H8.out.2.2.2.1 ((Below.refl W8.heap.size W8).alloc (Nat.le_refl _) (.cells #[.slice sa sn sc, .slice pa pn pc, .int .i64 left, .bool false] 25)) (blk_lt H8.out.2.2.2.1), H8.out.2.2.2.2.1.below ((Below.refl W8.heap.size W8).alloc (Nat.le_refl _) (.cells #[.slice sa sn sc, .slice pa pn pc, .int .i64 left, .bool false] 25)) (Nat.le_refl _), blk_below H8.out.2.2.2.2.2 ((Below.refl W8.heap.size W8).alloc (Nat.le_refl _) (.cells #[.slice sa sn sc, .slice pa pn pc, .int .i64 left, .bool false] 25)) (blk_lt H8.out.2.2.2.2.2), blk_new W8 (.cells #[.slice sa sn sc, .slice pa pn pc, .int .i64 left, .bool false] 25)⟩)
        have hzW9 : W8.heap.size < (W8.alloc (.cells #[.slice sa sn sc, .slice pa pn pc, .int .i64 left, .bool false] 25)).heap.size := by simp
        generalize W8.alloc (.cells #[.slice sa sn sc, .slice pa pn pc, .int .i64 left, .bool false] 25) = W9 at *
        have xd0 := blk_cell H9.out.2.1 0
        have xd1 := blk_cell H9.out.2.1 1
        have xd2 := blk_cell H9.out.2.1 2
        have xd3 := blk_cell H9.out.2.1 3
        go_wp2_with fail
        clear xd0 xd1 xd2 xd3
        refine (rstop_any S P lf false sa sb so sn sc pa pb po pn pc left _ (HA.out.1.below H9.out.1 (Nat.le_refl _)) (HA.out.2.below H9.out.1 (Nat.le_refl _)) (by omega) (by omega)).mono ?_
        rintro e W10 ⟨hp, hb⟩
        replace hp := hp.ok HR.out HS.out.1 HS.out.2
        subst hp
        have H10 := Lib.hid (show _ ∧ _ ∧ _ ∧ _ ∧ _ ∧ _ ∧ _ from ⟨below_after H9.out.1 hb H9.out.1.size, blk_below H9.out.2.1 hb (blk_lt H9.out.2.1), H9.out.2.2.1.below hb (Nat.le_refl _), blk_below H9.out.2.2.2.1 hb (blk_lt H9.out.2.2.2.1), H9.out.2.2.2.2.1.below hb (Nat.le_refl _), blk_below H9.out.2.2.2.2.2.1 hb (blk_lt H9.out.2.2.2.2.2.1), blk_below H9.out.2.2.2.2.2.2 hb (blk_lt H9.out.2.2.2.2.2.2)⟩)
        clear hb
        go_upto_region 9 with fail
        have H11 := Lib.hid (show _ ∧ _ ∧ _ ∧ _ ∧ _ ∧ _ ∧ _ ∧ _ from ⟨below_after H10.out.1 ((Below.refl W10.heap.size W10).alloc (Nat.le_refl _) (.cells #[.slice sa sn sc, .slice pa pn pc, .int .i64 left, .bool false] 25)) H10.out.1.size, blk_below H10.out.2.1 ((Below.refl W10.heap.size W10).alloc (Nat.le_refl _) (.cells #[.slice sa sn sc, .slice pa pn pc, .int .i64 left, .bool false] 25)) (blk_lt H10.out.2.1), H10.out.2.2.1.below ((Below.refl W10.heap.size W10).alloc (Nat.le_refl _) (.cells #[.slice sa sn sc, .slice pa pn pc, .int .i64 left, .bool false] 25)) (Nat.le_refl _), blk_below H10.out.2.2.2.1 ((Below.refl W10.heap.size W10).alloc (Nat.le_refl _) (.cells #[.slice sa sn sc, .slice pa pn pc, .int .i64 left, .bool false] 25)) (blk_lt H10.out.2.2.2.1), H10.out.2.2.2.2.1.below ((Below.refl W10.heap.size W10).alloc (Nat.le_refl _) (.cells #[.slice sa sn sc, .slice pa pn pc, .int .i64 left, .bool false] 25)) (Nat.le_refl _), blk_below H10.out.2.2.2.2.2.1 ((Below.refl W10.heap.size W10).alloc (Nat.le_refl _) (.cells #[.slice sa sn sc, .slice pa pn pc, .int .i64 left, .bool false] 25)) (blk_lt H10.out.2.2.2.2.2.1), blk_below H10.out.2.2.2.2.2.2 ((Below.refl W10.heap.size W10).alloc (Nat.le_refl _) (.cells #[.slice sa sn sc, .slice pa pn pc, .int .i64 left, .bool false] 25)) (blk_lt H10.out.2.2.2.2.2.2), blk_new W10 (.cells #[.slice sa sn sc, .slice pa pn pc, .int .i64 left, .bool false] 25)⟩)
        have hzW11 : W10.heap.size < (W10.alloc (.cells #[.slice sa sn sc, .slice pa pn pc, .int .i64 left, .bool false] 25)).heap.size := by simp
        generalize W10.alloc (.cells #[.slice sa sn sc, .slice pa pn pc, .int .i64 left, .bool false] 25) = W11 at *
        have xx0 := blk_cell H11.out.2.2.2.1 0
        have xx1 := blk_cell H11.out.2.2.2.1 1
        have xx2 := blk_cell H11.out.2.2.2.1 2
        have xx3 := blk_cell H11.out.2.2.2.1 3
        have xy0 := blk_cell H11.out.2.2.2.2.2.1 0
        have xy1 := blk_cell H11.out.2.2.2.2.2.1 1
        have xy2 := blk_cell H11.out.2.2.2.2.2.1 2
        have xy3 := blk_cell H11.out.2.2.2.2.2.1 3
        go_wp2_with fail
        clear xx0 xx1 xx2 xx3 xy0 xy1 xy2 xy3
        refine (same_any (perfK S P pn) (perfK S P pn) [] [] G false (some ⟨b, 0, none⟩) (some ⟨b2, 0, none⟩) b 0 b2 0 sn cap cap2 none none 0 0 0 0 0 0 0 _ H11.out.2.2.1 (pens_nil _ _) H11.out.2.2.2.2.1 (pens_nil _ _) (by omega) (by omega) (fun i hi => rfl) (fun i hi => by omega)).mono ?_
        rintro e W12 ⟨hp, hb⟩
        subst hp
        have H12 := Lib.hid (show _ ∧ _ ∧ _ ∧ _ ∧ _ ∧ _ ∧ _ ∧ _ from ⟨below_after H11.out.1 hb H11.out.1.size, blk_below H11.out.2.1 hb (blk_lt H11.out.2.1), H11.out.2.2.1.below hb (Nat.le_refl _), blk_below H11.out.2.2.2.1 hb (blk_lt H11.out.2.2.2.1), H11.out.2.2.2.2.1.below hb (Nat.le_refl _), blk_below H11.out.2.2.2.2.2.1 hb (blk_lt H11.out.2.2.2.2.2.1), blk_below H11.out.2.2.2.2.2.2.1 hb (blk_lt H11.out.2.2.2.2.2.2.1), blk_below H11.out.2.2.2.2.2.2.2 hb (blk_lt H11.out.2.2.2.2.2.2.2)⟩)
        clear hb
        have xu0 := blk_cell H12.out.2.2.2.2.2.2.1 0
        have xu1 := blk_cell H12.out.2.2.2.2.2.2.1 1
        have xu2 := blk_cell H12.out.2.2.2.2.2.2.1 2
        have xu3 := blk_cell H12.out.2.2.2.2.2.2.1 3
        have xv0 := blk_cell H12.out.2.2.2.2.2.2.2 0
        have xv1 := blk_cell H12.out.2.2.2.2.2.2.2 1
        have xv2 := blk_cell H12.out.2.2.2.2.2.2.2 2
        have xv3 := blk_cell H12.out.2.2.2.2.2.2.2 3
        go_wp2_with fail
        clear xu0 xu1 xu2 xu3 xv0 xv1 xv2 xv3
        refine (same_any S S P P left false sa sa sb so sb so sn sc sc pa pa pb po pb po pn pc pc _ (HA.out.1.below H12.out.1 (Nat.le_refl _)) (HA.out.2.below H12.out.1 (Nat.le_refl _)) (HA.out.1.below H12.out.1 (Nat.le_refl _)) (HA.out.2.below H12.out.1 (Nat.le_refl _)) (by omega) (by omega) (fun i hi => rfl) (fun i hi => ⟨rfl, rfl⟩)).mono ?_
        rintro e W13 ⟨hp, hb⟩
        subst hp
        have H13 := Lib.hid (show _ ∧ _ ∧ _ ∧ _ ∧ _ ∧ _ ∧ _ ∧ _ from ⟨below_after H12.out.1 hb H12.out.1.size, blk_below H12.out.2.1 hb (blk_lt H12.out.2.1), H12.out.2.2.1.below hb (Nat.le_refl _), blk_below H12.out.2.2.2.1 hb (blk_lt H12.out.2.2.2.1), H12.out.2.2.2.2.1.below hb (Nat.le_refl _), blk_below H12.out.2.2.2.2.2.1 hb (blk_lt H12.out.2.2.2.2.2.1), blk_below H12.out.2.2.2.2.2.2.1 hb (blk_lt H12.out.2.2.2.2.2.2.1), blk_below H12.out.2.2.2.2.2.2.2 hb (blk_lt H12.out.2.2.2.2.2.2.2)⟩)
        clear hb
        go_wp2
        go_ret
        exact ⟨rfl, H13.out.1⟩
      · have HS := Lib.hid hs
        clear hs
        have xd0 := blk_cell H3.out.2 0
        have xd1 := blk_cell H3.out.2 1
        have xd2 := blk_cell H3.out.2 2
        have xd3 := blk_cell H3.out.2 3
        go_wp2_with fail
        clear xd0 xd1 xd2 xd3
        refine (sync_any S P lf false sa sb so sn sc pa pb po pn pc _ (HA.out.1.below H3.out.1 (Nat.le_refl _)) (HA.out.2.below H3.out.1 (Nat.le_refl _)) (by omega) (by omega) hpc hsz).mono ?_
        rintro e W4 ⟨hp, hb⟩
        obtain ⟨b, cap, hcap, hB, hS1, he⟩ := hp.done HR.out h1
        rw [← HG.out] at he
        subst he
        have H4 := Lib.hid (show _ ∧ _ ∧ _ from ⟨below_after H3.out.1 hb H3.out.1.size, blk_below H3.out.2 hb (blk_lt H3.out.2), hS1⟩)
        clear hb
        go_upto_region 6 with fail
        have H5 := Lib.hid (show _ ∧ _ ∧ _ ∧ _ from ⟨below_after H4.out.1 ((Below.refl W4.heap.size W4).alloc (Nat.le_refl _) (.cells #[.slice (some ⟨b, 0, none⟩) sn cap, .slice none 0 0, .int .i64 G, .bool false] 25)) H4.out.1.size, blk_below H4.out.2.1 ((Below.refl W4.heap.size W4).alloc (Nat.le_refl _) (.cells #[.slice (some ⟨b, 0, none⟩) sn cap, .slice none 0 0, .int .i64 G, .bool false] 25)) (blk_lt H4.out.2.1), H4.out.2.2.below ((Below.refl W4.heap.size W4).alloc (Nat.le_refl _) (.cells #[.slice (some ⟨b, 0, none⟩) sn cap, .slice none 0 0, .int .i64 G, .bool false] 25)) (Nat.le_refl _), blk_new W4 (.cells #[.slice (some ⟨b, 0, none⟩) sn cap, .slice none 0 0, .int .i64 G, .bool false] 25)⟩)
        have hzW5 : W4.heap.size < (W4.alloc (.cells #[.slice (some ⟨b, 0, none⟩) sn cap, .slice none 0 0, .int .i64 G, .bool false] 25)).heap.size := by simp
        generalize W4.alloc (.cells #[.slice (some ⟨b, 0, none⟩) sn cap, .slice none 0 0, .int .i64 G, .bool false] 25) = W5 at *
        have xd0 := blk_cell H5.out.2.1 0
        have xd1 := blk_cell H5.out.2.1 1
        have xd2 := blk_cell H5.out.2.1 2
        have xd3 := blk_cell H5.out.2.1 3
        go_wp2_with fail
        clear xd0 xd1 xd2 xd3
        refine (rsync_any S P lf false sa sb so sn sc pa pb po pn pc _ (HA.out.1.below H5.out.1 (Nat.le_refl _)) (HA.out.2.below H5.out.1 (Nat.le_refl _)) (by omega) (by omega) hpc hsz).mono ?_
        rintro e W6 ⟨hp, hb⟩
        obtain ⟨b2, cap2, hcap2, hB2, hS2, he⟩ := hp.done HR.out h1
        rw [← HG.out] at he
        subst he
        have H6 := Lib.hid (show _ ∧ _ ∧ _ ∧ _ ∧ _ from ⟨below_after H5.out.1 hb H5.out.1.size, blk_below H5.out.2.1 hb (blk_lt H5.out.2.1), H5.out.2.2.1.below hb (Nat.le_refl _), blk_below H5.out.2.2.2 hb (blk_lt H5.out.2.2.2), hS2⟩)
        clear hb
        go_upto_region 7 with fail
        have H7 := Lib.hid (show _ ∧ _ ∧ _ ∧ _ ∧ _ ∧ _ from ⟨below_after H6.out.1 ((Below.refl W6.heap.size W6).alloc (Nat.le_refl _) (.cells #[.slice (some ⟨b2, 0, none⟩) sn cap2, .slice none 0 0, .int .i64 G, .bool false] 25)) H6.out.1.size, blk_below H6.out.2.1 ((Below.refl W6.heap.size W6).alloc (Nat.le_refl _) (.cells #[.slice (some ⟨b2, 0, none⟩) sn cap2, .slice none 0 0, .int .i64 G, .bool false] 25)) (blk_lt H6.out.2.1), H6.out.2.2.1.below ((Below.refl W6.heap.size W6).alloc (Nat.le_refl _) (.cells #[.slice (some ⟨b2, 0, none⟩) sn cap2, .slice none 0 0, .int .i64 G, .bool false] 25)) (Nat.le_refl _), blk_below H6.out.2.2.2.1 ((Below.refl W6.heap.size W6).alloc (Nat.le_refl _) (.cells #[.slice (some ⟨b2, 0, none⟩) sn cap2, .slice none 0 0, .int .i64 G, .bool false] 25)) (blk_lt H6.out.2.2.2.1), H6.out.2.2.2.2.below ((Below.refl W6.heap.size W6).alloc (Nat.le_refl _) (.cells #[.slice (some ⟨b2, 0, none⟩) sn cap2, .slice none 0 0, .int .i64 G, .bool false] 25)) (Nat.le_refl _), blk_new W6 (.cells #[.slice (some ⟨b2, 0, none⟩) sn cap2, .slice none 0 0, .int .i64 G, .bool false] 25)⟩)
        have hzW7 : W6.heap.size < (W6.alloc (.cells #[.slice (some ⟨b2, 0, none⟩) sn cap2, .slice none 0 0, .int .i64 G, .bool false] 25)).heap.size := by simp
        generalize W6.alloc (.cells #[.slice (some ⟨b2, 0, none⟩) sn cap2, .slice none 0 0, .int .i64 G, .bool false] 25) = W7 at *
        have xd0 := blk_cell H7.out.2.1 0
        have xd1 := blk_cell H7.out.2.1 1
        have xd2 := blk_cell H7.out.2.1 2
        have xd3 := blk_cell H7.out.2.1 3
        go_wp2_with fail
        clear xd0 xd1 xd2 xd3
        refine (stop_any S P lf false sa sb so sn sc pa pb po pn pc left _ (HA.out.1.below H7.out.1 (Nat.le_refl _)) (HA.out.2.below H7.out.1 (Nat.le_refl _)) (by omega) (by omega)).mono ?_
        rintro e W8 ⟨hp, hb⟩
        replace hp := hp.arg HR.out (by have := HS.out; omega)
        subst hp
        have H8 := Lib.hid (show _ ∧ _ ∧ _ ∧ _ ∧ _ ∧ _ from ⟨below_after H7.out.1 hb H7.out.1.size, blk_below H7.out.2.1 hb (blk_lt H7.out.2.1), H7.out.2.2.1.below hb (Nat.le_refl _), blk_below H7.out.2.2.2.1 hb (blk_lt H7.out.2.2.2.1), H7.out.2.2.2.2.1.below hb (Nat.le_refl _), blk_below H7.out.2.2.2.2.2 hb (blk_lt H7.out.2.2.2.2.2)⟩)
        clear hb
        go_upto_region 8 with fail
        have H9 := Lib.hid (show _ ∧ _ ∧ _ ∧ _ ∧ _ ∧ _ ∧ _ from ⟨below_after H8.out.1 ((Below.refl W8.heap.size W8).alloc (Nat.le_refl _) (.cells #[.slice none 0 0, .slice none 0 0, .int .i64 0, .bool false] 25)) H8.out.1.size, blk_below H8.out.2.1 ((Below.refl W8.heap.size W8).alloc (Nat.le_refl _) (.cells #[.slice none 0 0, .slice none 0 0, .int .i64 0, .bool false] 25)) (blk_lt H8.out.2.1), H8.out.2.2.1.below ((Below.refl W8.heap.size W8).alloc (Nat.le_refl _) (.cells #[.slice none 0 0, .slice none 0 0, .int .i64 0, .bool false] 25)) (Nat.le_refl _), blk_below H8.out.2.2.2.1 ((Below.refl W8.heap.size W8).alloc (Nat.le_refl _) (.cells #[.slice none 0 0, .slice none 0 0, .int .i64 0, .bool false] 25)) (blk_lt H8.out.2.2.2.1), H8.out.2.2.2.2.1.below ((Below.refl W8.heap.size W8).alloc (Nat.le_refl _) (.cells #[.slice none 0 0, .slice none 0 0, .int .i64 0, .bool false] 25)) (Nat.le_refl _), blk_below H8.out.2.2.2.2.2 ((Below.refl W8.heap.size W8).alloc (Nat.le_refl _) (.cells #[.slice none 0 0, .slice none 0 0, .int .i64 0, .bool false] 25)) (blk_lt H8.out.2.2.2.2.2), blk_new W8 (.cells #[.slice none 0 0, .slice none 0 0, .int .i64 0, .bool false] 25)⟩)
        have hzW9 : W8.heap.size < (W8.alloc (.cells #[.slice none 0 0, .slice none 0 0, .int .i64 0, .bool false] 25)).heap.size := by simp
        generalize W8.alloc (.cells #[.slice none 0 0, .slice none 0 0, .int .i64 0, .bool false] 25) = W9 at *
        have xd0 := blk_cell H9.out.2.1 0
        have xd1 := blk_cell H9.out.2.1 1
        have xd2 := blk_cell H9.out.2.1 2
        have xd3 := blk_cell H9.out.2.1 3
        go_wp2_with fail
        clear xd0 xd1 xd2 xd3
        refine (rstop_any S P lf false sa sb so sn sc pa pb po pn pc left _ (HA.out.1.below H9.out.1 (Nat.le_refl _)) (HA.out.2.below H9.out.1 (Nat.le_refl _)) (by omega) (by omega)).mono ?_
        rintro e W10 ⟨hp, hb⟩
        replace hp := hp.arg HR.out (by have := HS.out; omega)
        subst hp
        have H10 := Lib.hid (show _ ∧ _ ∧ _ ∧ _ ∧ _ ∧ _ ∧ _ from ⟨below_after H9.out.1 hb H9.out.1.size, blk_below H9.out.2.1 hb (blk_lt H9.out.2.1), H9.out.2.2.1.below hb (Nat.le_refl _), blk_below H9.out.2.2.2.1 hb (blk_lt H9.out.2.2.2.1), H9.out.2.2.2.2.1.below hb (Nat.le_refl _), blk_below H9.out.2.2.2.2.2.1 hb (blk_lt H9.out.2.2.2.2.2.1), blk_below H9.out.2.2.2.2.2.2 hb (blk_lt H9.out.2.2.2.2.2.2)⟩)
        clear hb
        go_upto_region 9 with fail
        have H11 := Lib.hid (show _ ∧ _ ∧ _ ∧ _ ∧ _ ∧ _ ∧ _ ∧ _ from ⟨below_after H10.out.1 ((Below.refl W10.heap.size W10).alloc (Nat.le_refl _) (.cells #[.slice none 0 0, .slice none 0 0, .int .i64 0, .bool false] 25)) H10.out.1.size, blk_below H10.out.2.1 ((Below.refl W10.heap.size W10).alloc (Nat.le_refl _) (.cells #[.slice none 0 0, .slice none 0 0, .int .i64 0, .bool false] 25)) (blk_lt H10.out.2.1), H10.out.2.2.1.below ((Below.refl W10.heap.size W10).alloc (Nat.le_refl _) (.cells #[.slice none 0 0, .slice none 0 0, .int .i64 0, .bool false] 25)) (Nat.le_refl _), blk_below H10.out.2.2.2.1 ((Below.refl W10.heap.size W10).alloc (Nat.le_refl _) (.cells #[.slice none 0 0, .slice none 0 0, .int .i64 0, .bool false] 25)) (blk_lt H10.out.2.2.2.1), H10.out.2.2.2.2.1.below ((Below.refl W10.heap.size W10).alloc (Nat.le_refl _) (.cells #[.slice none 0 0, .slice none 0 0, .int .i64 0, .bool false] 25)) (Nat.le_refl _), blk_below H10.out.2.2.2.2.2.1 ((Below.refl W10.heap.size W10).alloc (Nat.le_refl _) (.cells #[.slice none 0 0, .slice none 0 0, .int .i64 0, .bool false] 25)) (blk_lt H10.out.2.2.2.2.2.1), blk_below H10.out.2.2.2.2.2.2 ((Below.refl W10.heap.size W10).alloc (Nat.le_refl _) (.cells #[.slice none 0 0, .slice none 0 0, .int .i64 0, .bool false] 25)) (blk_lt H10.out.2.2.2.2.2.2), blk_new W10 (.cells #[.slice none 0 0, .slice none 0 0, .int .i64 0, .bool false] 25)⟩)
        have hzW11 : W10.heap.size < (W10.alloc (.cells #[.slice none 0 0, .slice none 0 0, .int .i64 0, .bool false] 25)).heap.size := by simp
        generalize W10.alloc (.cells #[.slice none 0 0, .slice none 0 0, .int .i64 0, .bool false] 25) = W11 at *
        have xx0 := blk_cell H11.out.2.2.2.1 0
        have xx1 := blk_cell H11.out.2.2.2.1 1
        have xx2 := blk_cell H11.out.2.2.2.1 2
        have xx3 := blk_cell H11.out.2.2.2.1 3
        have xy0 := blk_cell H11.out.2.2.2.2.2.1 0
        have xy1 := blk_cell H11.out.2.2.2.2.2.1 1
        have xy2 := blk_cell H11.out.2.2.2.2.2.1 2
        have xy3 := blk_cell H11.out.2.2.2.2.2.1 3
        go_wp2_with fail
        clear xx0 xx1 xx2 xx3 xy0 xy1 xy2 xy3
        refine (same_any (perfK S P pn) (perfK S P pn) [] [] G false (some ⟨b, 0, none⟩) (some ⟨b2, 0, none⟩) b 0 b2 0 sn cap cap2 none none 0 0 0 0 0 0 0 _ H11.out.2.2.1 (pens_nil _ _) H11.out.2.2.2.2.1 (pens_nil _ _) (by omega) (by omega) (fun i hi => rfl) (fun i hi => by omega)).mono ?_
        rintro e W12 ⟨hp, hb⟩
        subst hp
        have H12 := Lib.hid (show _ ∧ _ ∧ _ ∧ _ ∧ _ ∧ _ ∧ _ ∧ _ from ⟨below_after H11.out.1 hb H11.out.1.size, blk_below H11.out.2.1 hb (blk_lt H11.out.2.1), H11.out.2.2.1.below hb (Nat.le_refl _), blk_below H11.out.2.2.2.1 hb (blk_lt H11.out.2.2.2.1), H11.out.2.2.2.2.1.below hb (Nat.le_refl _), blk_below H11.out.2.2.2.2.2.1 hb (blk_lt H11.out.2.2.2.2.2.1), blk_below H11.out.2.2.2.2.2.2.1 hb (blk_lt H11.out.2.2.2.2.2.2.1), blk_below H11.out.2.2.2.2.2.2.2 hb (blk_lt H11.out.2.2.2.2.2.2.2)⟩)
        clear hb
        have xu0 := blk_cell H12.out.2.2.2.2.2.2.1 0
        have xu1 := blk_cell H12.out.2.2.2.2.2.2.1 1
        have xu2 := blk_cell H12.out.2.2.2.2.2.2.1 2
        have xu3 := blk_cell H12.out.2.2.2.2.2.2.1 3
        have xv0 := blk_cell H12.out.2.2.2.2.2.2.2 0
        have xv1 := blk_cell H12.out.2.2.2.2.2.2.2 1
        have xv2 := blk_cell H12.out.2.2.2.2.2.2.2 2
        have xv3 := blk_cell H12.out.2.2.2.2.2.2.2 3
        go_wp2_with fail
        clear xu0 xu1 xu2 xu3 xv0 xv1 xv2 xv3
        refine (same_any [] [] [] [] 0 false none none 0 0 0 0 0 0 0 none none 0 0 0 0 0 0 0 _ (secs_nil _ _) (pens_nil _ _) (secs_nil _ _) (pens_nil _ _) (by omega) (by omega) (fun i hi => by omega) (fun i hi => by omega)).mono ?_
        rintro e W13 ⟨hp, hb⟩
        subst hp
        have H13 := Lib.hid (show _ ∧ _ ∧ _ ∧ _ ∧ _ ∧ _ ∧ _ ∧ _ from ⟨below_after H12.out.1 hb H12.out.1.size, blk_below H12.out.2.1 hb (blk_lt H12.out.2.1), H12.out.2.2.1.below hb (Nat.le_refl _), blk_below H12.out.2.2.2.1 hb (blk_lt H12.out.2.2.2.1), H12.out.2.2.2.2.1.below hb (Nat.le_refl _), blk_below H12.out.2.2.2.2.2.1 hb (blk_lt H12.out.2.2.2.2.2.1), blk_below H12.out.2.2.2.2.2.2.1 hb (blk_lt H12.out.2.2.2.2.2.2.1), blk_below H12.out.2.2.2.2.2.2.2 hb (blk_lt H12.out.2.2.2.2.2.2.2)⟩)
        clear hb
        go_wp2
        go_ret
        exact ⟨rfl, H13.out.1⟩
    · have h0 : 0 ≤ lf := by omega
      have h2 : lf < (pn : Int) := by omega
      obtain ⟨Q, hQ⟩ : ∃ Q, Q = perfK S P lf.toNat := ⟨_, rfl⟩
      have HQ := Lib.hid hQ
      have hQl : Q.length = sn := by rw [hQ, perfK_len]; exact HA.out.1.len
      clear hQ h1
      by_cases hs : 0 ≤ left ∧ left ≤ 65536
      · have HS := Lib.hid hs
        clear hs
        have xd0 := blk_cell H3.out.2 0
        have xd1 := blk_cell H3.out.2 1
        have xd2 := blk_cell H3.out.2 2
        have xd3 := blk_cell H3.out.2 3
        go_wp2_with fail
        clear xd0 xd1 xd2 xd3
        refine (sync_any S P lf false sa sb so sn sc pa pb po pn pc _ (HA.out.1.below H3.out.1 (Nat.le_refl _)) (HA.out.2.below H3.out.1 (Nat.le_refl _)) (by omega) (by omega) hpc hsz).mono ?_
        rintro e W4 ⟨hp, hb⟩
        obtain ⟨b, cap, Y, hcap, hB, -, hY, hS1, he⟩ := hp.torn HR.out h0 h2
        rw [← HQ.out] at hS1 hY
        subst he
        have H4 := Lib.hid (show _ ∧ _ ∧ _ from ⟨below_after H3.out.1 hb H3.out.1.size, blk_below H3.out.2 hb (blk_lt H3.out.2), hS1⟩)
        clear hb
        go_upto_region 6 with fail
        have H5 := Lib.hid (show _ ∧ _ ∧ _ ∧ _ from ⟨below_after H4.out.1 ((Below.refl W4.heap.size W4).alloc (Nat.le_refl _) (.cells #[.slice (some ⟨b, 0, none⟩) sn cap, .slice none 0 0, .int .i64 0, .bool true] 25)) H4.out.1.size, blk_below H4.out.2.1 ((Below.refl W4.heap.size W4).alloc (Nat.le_refl _) (.cells #[.slice (some ⟨b, 0, none⟩) sn cap, .slice none 0 0, .int .i64 0, .bool true] 25)) (blk_lt H4.out.2.1), H4.out.2.2.below ((Below.refl W4.heap.size W4).alloc (Nat.le_refl _) (.cells #[.slice (some ⟨b, 0, none⟩) sn cap, .slice none 0 0, .int .i64 0, .bool true] 25)) (Nat.le_refl _), blk_new W4 (.cells #[.slice (some ⟨b, 0, none⟩) sn cap, .slice none 0 0, .int .i64 0, .bool true] 25)⟩)
        have hzW5 : W4.heap.size < (W4.alloc (.cells #[.slice (some ⟨b, 0, none⟩) sn cap, .slice none 0 0, .int .i64 0, .bool true] 25)).heap.size := by simp
        generalize W4.alloc (.cells #[.slice (some ⟨b, 0, none⟩) sn cap, .slice none 0 0, .int .i64 0, .bool true] 25) = W5 at *
        have xd0 := blk_cell H5.out.2.1 0
        have xd1 := blk_cell H5.out.2.1 1
        have xd2 := blk_cell H5.out.2.1 2
        have xd3 := blk_cell H5.out.2.1 3
        go_wp2_with fail
        clear xd0 xd1 xd2 xd3
        refine (rsync_any S P lf false sa sb so sn sc pa pb po pn pc _ (HA.out.1.below H5.out.1 (Nat.le_refl _)) (HA.out.2.below H5.out.1 (Nat.le_refl _)) (by omega) (by omega) hpc hsz).mono ?_
        rintro e W6 ⟨hp, hb⟩
        obtain ⟨b2, cap2, Y2, hcap2, hB2, -, hY2, hS2, he⟩ := hp.torn HR.out h0 h2
        rw [← HQ.out] at hS2 hY2
        subst he
        have H6 := Lib.hid (show _ ∧ _ ∧ _ ∧ _ ∧ _ ∧ _ from ⟨below_after H5.out.1 hb H5.out.1.size, blk_below H5.out.2.1 hb (blk_lt H5.out.2.1), H5.out.2.2.1.below hb (Nat.le_refl _), blk_below H5.out.2.2.2 hb (blk_lt H5.out.2.2.2), hS2, (hY.trans hY2.symm)⟩)
        clear hb
        go_upto_region 7 with fail
        have H7 := Lib.hid (show _ ∧ _ ∧ _ ∧ _ ∧ _ ∧ _ ∧ _ from ⟨below_after H6.out.1 ((Below.refl W6.heap.size W6).alloc (Nat.le_refl _) (.cells #[.slice (some ⟨b2, 0, none⟩) sn cap2, .slice none 0 0, .int .i64 0, .bool true] 25)) H6.out.1.size, blk_below H6.out.2.1 ((Below.refl W6.heap.size W6).alloc (Nat.le_refl _) (.cells #[.slice (some ⟨b2, 0, none⟩) sn cap2, .slice none 0 0, .int .i64 0, .bool true] 25)) (blk_lt H6.out.2.1), H6.out.2.2.1.below ((Below.refl W6.heap.size W6).alloc (Nat.le_refl _) (.cells #[.slice (some ⟨b2, 0, none⟩) sn cap2, .slice none 0 0, .int .i64 0, .bool true] 25)) (Nat.le_refl _), blk_below H6.out.2.2.2.1 ((Below.refl W6.heap.size W6).alloc (Nat.le_refl _) (.cells #[.slice (some ⟨b2, 0, none⟩) sn cap2, .slice none 0 0, .int .i64 0, .bool true] 25)) (blk_lt H6.out.2.2.2.1), H6.out.2.2.2.2.1.below ((Below.refl W6.heap.size W6).alloc (Nat.le_refl _) (.cells #[.slice (some ⟨b2, 0, none⟩) sn cap2, .slice none 0 0, .int .i64 0, .bool true] 25)) (Nat.le_refl _), H6.out.2.2.2.2.2, blk_new W6 (.cells #[.slice (some ⟨b2, 0, none⟩) sn cap2, .slice none 0 0, .int .i64 0, .bool true] 25)⟩)
        have hzW7 : W6.heap.size < (W6.alloc (.cells #[.slice (some ⟨b2, 0, none⟩) sn cap2, .slice none 0 0, .int .i64 0, .bool true] 25)).heap.size := by simp
        generalize W6.alloc (.cells #[.slice (some ⟨b2, 0, none⟩) sn cap2, .slice none 0 0, .int .i64 0, .bool true] 25) = W7 at *
        have xd0 := blk_cell H7.out.2.1 0
        have xd1 := blk_cell H7.out.2.1 1
        have xd2 := blk_cell H7.out.2.1 2
        have xd3 := blk_cell H7.out.2.1 3
        go_wp2_with fail
        clear xd0 xd1 xd2 xd3
        refine (stop_any S P lf false sa sb so sn sc pa pb po pn pc left _ (HA.out.1.below H7.out.1 (Nat.le_refl _)) (HA.out.2.below H7.out.1 (Nat.le_refl _)) (by omega) (by omega)).mono ?_
        rintro e W8 ⟨hp, hb⟩
        replace hp := hp.ok HR.out HS.out.1 HS.out.2
        subst hp
        have H8 := Lib.hid (show _ ∧ _ ∧ _ ∧ _ ∧ _ ∧ _ ∧ _ from ⟨below_after H7.out.1 hb H7.out.1.size, blk_below H7.out.2.1 hb (blk_lt H7.out.2.1), H7.out.2.2.1.below hb (Nat.le_refl _), blk_below H7.out.2.2.2.1 hb (blk_lt H7.out.2.2.2.1), H7.out.2.2.2.2.1.below hb (Nat.le_refl _), H7.out.2.2.2.2.2.1, blk_below H7.out.2.2.2.2.2.2 hb (blk_lt H7.out.2.2.2.2.2.2)⟩)
        clear hb
        go_upto_region 8 with fail
        have H9 := Lib.hid (show _ ∧ _ ∧ _ ∧ _ ∧ _ ∧ _ ∧ _ ∧ _ from ⟨below_after H8.out.1 ((Below.refl W8.heap.size W8).alloc (Nat.le_refl _) (.cells #[.slice sa sn sc, .slice pa pn pc, .int .i64 left, .bool false] 25)) H8.out.1.size, blk_below H8.out.2.1 ((Below.refl W8.heap.size W8).alloc (Nat.le_refl _) (.cells #[.slice sa sn sc, .slice pa pn pc, .int .i64 left, .bool false] 25)) (blk_lt H8.out.2.1), H8.out.2.2.1.below ((Below.refl W8.heap.size W8).alloc (Nat.le_refl _) (.cells #[.slice sa sn sc, .slice pa pn pc, .int .i64 left, .bool false] 25)) (Nat.le_refl _), blk_below H8.out.2.2.2.1 ((Below.refl W8.heap.size W8).alloc (Nat.le_refl _) (.cells #[.slice sa sn sc, .slice pa pn pc, .int .i64 left, .bool false] 25)) (blk_lt H8.out.2.2.2.1), H8.out.2.2.2.2.1.below ((Below.refl W8.heap.size W8).alloc (Nat.le_refl _) (.cells #[.slice sa sn sc, .slice pa pn pc, .int .i64 left, .bool false] 25)) (Nat.le_refl _), H8.out.2.2.2.2.2.1, blk_below H8.out.2.2.2.2.2.2 ((Below.refl W8.heap.size W8).alloc (Nat.le_refl _) (.cells #[.slice sa sn sc, .slice pa pn pc, .int .i64 left, .bool false] 25)) (blk_lt H8.out.2.2.2.2.2.2), blk_new W8 (.cells #[.slice sa sn sc, .slice pa pn pc, .int .i64 left, .bool false] 25)⟩)
        have hzW9 : W8.heap.size < (W8.alloc (.cells #[.slice sa sn sc, .slice pa pn pc, .int .i64 left, .bool false] 25)).heap.size := by simp
        generalize W8.alloc (.cells #[.slice sa sn sc, .slice pa pn pc, .int .i64 left, .bool false] 25) = W9 at *
        have xd0 := blk_cell H9.out.2.1 0
        have xd1 := blk_cell H9.out.2.1 1
        have xd2 := blk_cell H9.out.2.1 2
        have xd3 := blk_cell H9.out.2.1 3
        go_wp2_with fail
        clear xd0 xd1 xd2 xd3
        refine (rstop_any S P lf false sa sb so sn sc pa pb po pn pc left _ (HA.out.1.below H9.out.1 (Nat.le_refl _)) (HA.out.2.below H9.out.1 (Nat.le_refl _)) (by omega) (by omega)).mono ?_
        rintro e W10 ⟨hp, hb⟩
        replace hp := hp.ok HR.out HS.out.1 HS.out.2
        subst hp
        have H10 := Lib.hid (show _ ∧ _ ∧ _ ∧ _ ∧ _ ∧ _ ∧ _ ∧ _ from ⟨below_after H9.out.1 hb H9.out.1.size, blk_below H9.out.2.1 hb (blk_lt H9.out.2.1), H9.out.2.2.1.below hb (Nat.le_refl _), blk_below H9.out.2.2.2.1 hb (blk_lt H9.out.2.2.2.1), H9.out.2.2.2.2.1.below hb (Nat.le_refl _), H9.out.2.2.2.2.2.1, blk_below H9.out.2.2.2.2.2.2.1 hb (blk_lt H9.out.2.2.2.2.2.2.1), blk_below H9.out.2.2.2.2.2.2.2 hb (blk_lt H9.out.2.2.2.2.2.2.2)⟩)
        clear hb
        go_upto_region 9 with fail
        have H11 := Lib.hid (show _ ∧ _ ∧ _ ∧ _ ∧ _ ∧ _ ∧ _ ∧ _ ∧ _ from ⟨below_after H10.out.1 ((Below.refl W10.heap.size W10).alloc (Nat.le_refl _) (.cells #[.slice sa sn sc, .slice pa pn pc, .int .i64 left, .bool false] 25)) H10.out.1.size, blk_below H10.out.2.1 ((Below.refl W10.heap.size W10).alloc (Nat.le_refl _) (.cells #[.slice sa sn sc, .slice pa pn pc, .int .i64 left, .bool false] 25)) (blk_lt H10.out.2.1), H10.out.2.2.1.below ((Below.refl W10.heap.size W10).alloc (Nat.le_refl _) (.cells #[.slice sa sn sc, .slice pa pn pc, .int .i64 left, .bool false] 25)) (Nat.le_refl _), blk_below H10.out.2.2.2.1 ((Below.refl W10.heap.size W10).alloc (Nat.le_refl _) (.cells #[.slice sa sn sc, .slice pa pn pc, .int .i64 left, .bool false] 25)) (blk_lt H10.out.2.2.2.1), H10.out.2.2.2.2.1.below ((Below.refl W10.heap.size W10).alloc (Nat.le_refl _) (.cells #[.slice sa sn sc, .slice pa pn pc, .int .i64 left, .bool false] 25)) (Nat.le_refl _), H10.out.2.2.2.2.2.1, blk_below H10.out.2.2.2.2.2.2.1 ((Below.refl W10.heap.size W10).alloc (Nat.le_refl _) (.cells #[.slice sa sn sc, .slice pa pn pc, .int .i64 left, .bool false] 25)) (blk_lt H10.out.2.2.2.2.2.2.1), blk_below H10.out.2.2.2.2.2.2.2 ((Below.refl W10.heap.size W10).alloc (Nat.le_refl _) (.cells #[.slice sa sn sc, .slice pa pn pc, .int .i64 left, .bool false] 25)) (blk_lt H10.out.2.2.2.2.2.2.2), blk_new W10 (.cells #[.slice sa sn sc, .slice pa pn pc, .int .i64 left, .bool false] 25)⟩)
        have hzW11 : W10.heap.size < (W10.alloc (.cells #[.slice sa sn sc, .slice pa pn pc, .int .i64 left, .bool false] 25)).heap.size := by simp
        generalize W10.alloc (.cells #[.slice sa sn sc, .slice pa pn pc, .int .i64 left, .bool false] 25) = W11 at *
        have xx0 := blk_cell H11.out.2.2.2.1 0
        have xx1 := blk_cell H11.out.2.2.2.1 1
        have xx2 := blk_cell H11.out.2.2.2.1 2
        have xx3 := blk_cell H11.out.2.2.2.1 3
        have xy0 := blk_cell H11.out.2.2.2.2.2.2.1 0
        have xy1 := blk_cell H11.out.2.2.2.2.2.2.1 1
        have xy2 := blk_cell H11.out.2.2.2.2.2.2.1 2
        have xy3 := blk_cell H11.out.2.2.2.2.2.2.1 3
        go_wp2_with fail
        clear xx0 xx1 xx2 xx3 xy0 xy1 xy2 xy3
        refine (same_any (Q.set (nW P lf.toNat).1.toNat Y) (Q.set (nW P lf.toNat).1.toNat Y2) [] [] 0 true (some ⟨b, 0, none⟩) (some ⟨b2, 0, none⟩) b 0 b2 0 sn cap cap2 none none 0 0 0 0 0 0 0 _ H11.out.2.2.1 (pens_nil _ _) H11.out.2.2.2.2.1 (pens_nil _ _) (by omega) (by omega) (sameS_torn H11.out.2.2.2.2.2.1 hQl) (fun i hi => by omega)).mono ?_
        rintro e W12 ⟨hp, hb⟩
        subst hp
        have H12 := Lib.hid (show _ ∧ _ ∧ _ ∧ _ ∧ _ ∧ _ ∧ _ ∧ _ ∧ _ from ⟨below_after H11.out.1 hb H11.out.1.size, blk_below H11.out.2.1 hb (blk_lt H11.out.2.1), H11.out.2.2.1.below hb (Nat.le_refl _), blk_below H11.out.2.2.2.1 hb (blk_lt H11.out.2.2.2.1), H11.out.2.2.2.2.1.below hb (Nat.le_refl _), H11.out.2.2.2.2.2.1, blk_below H11.out.2.2.2.2.2.2.1 hb (blk_lt H11.out.2.2.2.2.2.2.1), blk_below H11.out.2.2.2.2.2.2.2.1 hb (blk_lt H11.out.2.2.2.2.2.2.2.1), blk_below H11.out.2.2.2.2.2.2.2.2 hb (blk_lt H11.out.2.2.2.2.2.2.2.2)⟩)
        clear hb
        have xu0 := blk_cell H12.out.2.2.2.2.2.2.2.1 0
        have xu1 := blk_cell H12.out.2.2.2.2.2.2.2.1 1
        have xu2 := blk_cell H12.out.2.2.2.2.2.2.2.1 2
        have xu3 := blk_cell H12.out.2.2.2.2.2.2.2.1 3
        have xv0 := blk_cell H12.out.2.2.2.2.2.2.2.2 0
        have xv1 := blk_cell H12.out.2.2.2.2.2.2.2.2 1
        have xv2 := blk_cell H12.out.2.2.2.2.2.2.2.2 2
        have xv3 := blk_cell H12.out.2.2.2.2.2.2.2.2 3
        go_wp2_with fail
        clear xu0 xu1 xu2 xu3 xv0 xv1 xv2 xv3
        refine (same_any S S P P left false sa sa sb so sb so sn sc sc pa pa pb po pb po pn pc pc _ (HA.out.1.below H12.out.1 (Nat.le_refl _)) (HA.out.2.below H12.out.1 (Nat.le_refl _)) (HA.out.1.below H12.out.1 (Nat.le_refl _)) (HA.out.2.below H12.out.1 (Nat.le_refl _)) (by omega) (by omega) (fun i hi => rfl) (fun i hi => ⟨rfl, rfl⟩)).mono ?_
        rintro e W13 ⟨hp, hb⟩
        subst hp
        have H13 := Lib.hid (show _ ∧ _ ∧ _ ∧ _ ∧ _ ∧ _ ∧ _ ∧ _ ∧ _ from ⟨below_after H12.out.1 hb H12.out.1.size, blk_below H12.out.2.1 hb (blk_lt H12.out.2.1), H12.out.2.2.1.below hb (Nat.le_refl _), blk_below H12.out.2.2.2.1 hb (blk_lt H12.out.2.2.2.1), H12.out.2.2.2.2.1.below hb (Nat.le_refl _), H12.out.2.2.2.2.2.1, blk_below H12.out.2.2.2.2.2.2.1 hb (blk_lt H12.out.2.2.2.2.2.2.1), blk_below H12.out.2.2.2.2.2.2.2.1 hb (blk_lt H12.out.2.2.2.2.2.2.2.1), blk_below H12.out.2.2.2.2.2.2.2.2 hb (blk_lt H12.out.2.2.2.2.2.2.2.2)⟩)
        clear hb
        go_wp2
        go_ret
        exact ⟨rfl, H13.out.1⟩
      · have HS := Lib.hid hs
        clear hs
        have xd0 := blk_cell H3.out.2 0
        have xd1 := blk_cell H3.out.2 1
        have xd2 := blk_cell H3.out.2 2
        have xd3 := blk_cell H3.out.2 3
        go_wp2_with fail
        clear xd0 xd1 xd2 xd3
        refine (sync_any S P lf false sa sb so sn sc pa pb po pn pc _ (HA.out.1.below H3.out.1 (Nat.le_refl _)) (HA.out.2.below H3.out.1 (Nat.le_refl _)) (by omega) (by omega) hpc hsz).mono ?_
        rintro e W4 ⟨hp, hb⟩
        obtain ⟨b, cap, Y, hcap, hB, -, hY, hS1, he⟩ := hp.torn HR.out h0 h2
        rw [← HQ.out] at hS1 hY
        subst he
        have H4 := Lib.hid (show _ ∧ _ ∧ _ from ⟨below_after H3.out.1 hb H3.out.1.size, blk_below H3.out.2 hb (blk_lt H3.out.2), hS1⟩)
        clear hb
        go_upto_region 6 with fail
        have H5 := Lib.hid (show _ ∧ _ ∧ _ ∧ _ from ⟨below_after H4.out.1 ((Below.refl W4.heap.size W4).alloc (Nat.le_refl _) (.cells #[.slice (some ⟨b, 0, none⟩) sn cap, .slice none 0 0, .int .i64 0, .bool true] 25)) H4.out.1.size, blk_below H4.out.2.1 ((Below.refl W4.heap.size W4).alloc (Nat.le_refl _) (.cells #[.slice (some ⟨b, 0, none⟩) sn cap, .slice none 0 0, .int .i64 0, .bool true] 25)) (blk_lt H4.out.2.1), H4.out.2.2.below ((Below.refl W4.heap.size W4).alloc (Nat.le_refl _) (.cells #[.slice (some ⟨b, 0, none⟩) sn cap, .slice none 0 0, .int .i64 0, .bool true] 25)) (Nat.le_refl _), blk_new W4 (.cells #[.slice (some ⟨b, 0, none⟩) sn cap, .slice none 0 0, .int .i64 0, .bool true] 25)⟩)
        have hzW5 : W4.heap.size < (W4.alloc (.cells #[.slice (some ⟨b, 0, none⟩) sn cap, .slice none 0 0, .int .i64 0, .bool true] 25)).heap.size := by simp
        generalize W4.alloc (.cells #[.slice (some ⟨b, 0, none⟩) sn cap, .slice none 0 0, .int .i64 0, .bool true] 25) = W5 at *
        have xd0 := blk_cell H5.out.2.1 0
        have xd1 := blk_cell H5.out.2.1 1
        have xd2 := blk_cell H5.out.2.1 2
        have xd3 := blk_cell H5.out.2.1 3
        go_wp2_with fail
        clear xd0 xd1 xd2 xd3
        refine (rsync_any S P lf false sa sb so sn sc pa pb po pn pc _ (HA.out.1.below H5.out.1 (Nat.le_refl _)) (HA.out.2.below H5.out.1 (Nat.le_refl _)) (by omega) (by omega) hpc hsz).mono ?_
        rintro e W6 ⟨hp, hb⟩
        obtain ⟨b2, cap2, Y2, hcap2, hB2, -, hY2, hS2, he⟩ := hp.torn HR.out h0 h2
        rw [← HQ.out] at hS2 hY2
        subst he
        have H6 := Lib.hid (show _ ∧ _ ∧ _ ∧ _ ∧ _ ∧ _ from ⟨below_after H5.out.1 hb H5.out.1.size, blk_below H5.out.2.1 hb (blk_lt H5.out.2.1), H5.out.2.2.1.below hb (Nat.le_refl _), blk_below H5.out.2.2.2 hb (blk_lt H5.out.2.2.2), hS2, (hY.trans hY2.symm)⟩)
        clear hb
        go_upto_region 7 with fail
        have H7 := Lib.hid (show _ ∧ _ ∧ _ ∧ _ ∧ _ ∧ _ ∧ _ from ⟨below_after H6.out.1 ((Below.refl W6.heap.size W6).alloc (Nat.le_refl _) (.cells #[.slice (some ⟨b2, 0, none⟩) sn cap2, .slice none 0 0, .int .i64 0, .bool true] 25)) H6.out.1.size, blk_below H6.out.2.1 ((Below.refl W6.heap.size W6).alloc (Nat.le_refl _) (.cells #[.slice (some ⟨b2, 0, none⟩) sn cap2, .slice none 0 0, .int .i64 0, .bool true] 25)) (blk_lt H6.out.2.1), H6.out.2.2.1.below ((Below.refl W6.heap.size W6).alloc (Nat.le_refl _) (.cells #[.slice (some ⟨b2, 0, none⟩) sn cap2, .slice none 0 0, .int .i64 0, .bool true] 25)) (Nat.le_refl _), blk_below H6.out.2.2.2.1 ((Below.refl W6.heap.size W6).alloc (Nat.le_refl _) (.cells #[.slice (some ⟨b2, 0, none⟩) sn cap2, .slice none 0 0, .int .i64 0, .bool true] 25)) (blk_lt H6.out.2.2.2.1), H6.out.2.2.2.2.1.below ((Below.refl W6.heap.size W6).alloc (Nat.le_refl _) (.cells #[.slice (some ⟨b2, 0, none⟩) sn cap2, .slice none 0 0, .int .i64 0, .bool true] 25)) (Nat.le_refl _), H6.out.2.2.2.2.2, blk_new W6 (.cells #[.slice (some ⟨b2, 0, none⟩) sn cap2, .slice none 0 0, .int .i64 0, .bool true] 25)⟩)
        have hzW7 : W6.heap.size < (W6.alloc (.cells #[.slice (some ⟨b2, 0, none⟩) sn cap2, .slice none 0 0, .int .i64 0, .bool true] 25)).heap.size := by simp
        generalize W6.alloc (.cells #[.slice (some ⟨b2, 0, none⟩) sn cap2, .slice none 0 0, .int .i64 0, .bool true] 25) = W7 at *
        have xd0 := blk_cell H7.out.2.1 0
        have xd1 := blk_cell H7.out.2.1 1
        have xd2 := blk_cell H7.out.2.1 2
        have xd3 := blk_cell H7.out.2.1 3
        go_wp2_with fail
        clear xd0 xd1 xd2 xd3
        refine (stop_any S P lf false sa sb so sn sc pa pb po pn pc left _ (HA.out.1.below H7.out.1 (Nat.le_refl _)) (HA.out.2.below H7.out.1 (Nat.le_refl _)) (by omega) (by omega)).mono ?_
        rintro e W8 ⟨hp, hb⟩
        replace hp := hp.arg HR.out (by have := HS.out; omega)
        subst hp
        have H8 := Lib.hid (show _ ∧ _ ∧ _ ∧ _ ∧ _ ∧ _ ∧ _ from ⟨below_after H7.out.1 hb H7.out.1.size, blk_below H7.out.2.1 hb (blk_lt H7.out.2.1), H7.out.2.2.1.below hb (Nat.le_refl _), blk_below H7.out.2.2.2.1 hb (blk_lt H7.out.2.2.2.1), H7.out.2.2.2.2.1.below hb (Nat.le_refl _), H7.out.2.2.2.2.2.1, blk_below H7.out.2.2.2.2.2.2 hb (blk_lt H7.out.2.2.2.2.2.2)⟩)
        clear hb
        go_upto_region 8 with fail
        have H9 := Lib.hid (show _ ∧ _ ∧ _ ∧ _ ∧ _ ∧ _ ∧ _ ∧ _ from ⟨below_after H8.out.1 ((Below.refl W8.heap.size W8).alloc (Nat.le_refl _) (.cells #[.slice none 0 0, .slice none 0 0, .int .i64 0, .bool false] 25)) H8.out.1.size, blk_below H8.out.2.1 ((Below.refl W8.heap.size W8).alloc (Nat.le_refl _) (.cells #[.slice none 0 0, .slice none 0 0, .int .i64 0, .bool false] 25)) (blk_lt H8.out.2.1), H8.out.2.2.1.below ((Below.refl W8.heap.size W8).alloc (Nat.le_refl _) (.cells #[.slice none 0 0, .slice none 0 0, .int .i64 0, .bool false] 25)) (Nat.le_refl _), blk_below H8.out.2.2.2.1 ((Below.refl W8.heap.size W8).alloc (Nat.le_refl _) (.cells #[.slice none 0 0, .slice none 0 0, .int .i64 0, .bool false] 25)) (blk_lt H8.out.2.2.2.1), H8.out.2.2.2.2.1.below ((Below.refl W8.heap.size W8).alloc (Nat.le_refl _) (.cells #[.slice none 0 0, .slice none 0 0, .int .i64 0, .bool false] 25)) (Nat.le_refl _), H8.out.2.2.2.2.2.1, blk_below H8.out.2.2.2.2.2.2 ((Below.refl W8.heap.size W8).alloc (Nat.le_refl _) (.cells #[.slice none 0 0, .slice none 0 0, .int .i64 0, .bool false] 25)) (blk_lt H8.out.2.2.2.2.2.2), blk_new W8 (.cells #[.slice none 0 0, .slice none 0 0, .int .i64 0, .bool false] 25)⟩)
        have hzW9 : W8.heap.size < (W8.alloc (.cells #[.slice none 0 0, .slice none 0 0, .int .i64 0, .bool false] 25)).heap.size := by simp
        generalize W8.alloc (.cells #[.slice none 0 0, .slice none 0 0, .int .i64 0, .bool false] 25) = W9 at *
        have xd0 := blk_cell H9.out.2.1 0
        have xd1 := blk_cell H9.out.2.1 1
        have xd2 := blk_cell H9.out.2.1 2
        have xd3 := blk_cell H9.out.2.1 3
        go_wp2_with fail
        clear xd0 xd1 xd2 xd3
        refine (rstop_any S P lf false sa sb so sn sc pa pb po pn pc left _ (HA.out.1.below H9.out.1 (Nat.le_refl _)) (HA.out.2.below H9.out.1 (Nat.le_refl _)) (by omega) (by omega)).mono ?_
        rintro e W10 ⟨hp, hb⟩
        replace hp := hp.arg HR.out (by have := HS.out; omega)
        subst hp
        have H10 := Lib.hid (show _ ∧ _ ∧ _ ∧ _ ∧ _ ∧ _ ∧ _ ∧ _ from ⟨below_after H9.out.1 hb H9.out.1.size, blk_below H9.out.2.1 hb (blk_lt H9.out.2.1), H9.out.2.2.1.below hb (Nat.le_refl _), blk_below H9.out.2.2.2.1 hb (blk_lt H9.out.2.2.2.1), H9.out.2.2.2.2.1.below hb (Nat.le_refl _), H9.out.2.2.2.2.2.1, blk_below H9.out.2.2.2.2.2.2.1 hb (blk_lt H9.out.2.2.2.2.2.2.1), blk_below H9.out.2.2.2.2.2.2.2 hb (blk_lt H9.out.2.2.2.2.2.2.2)⟩)
        clear hb
        go_upto_region 9 with fail
        have H11 := Lib.hid (show _ ∧ _ ∧ _ ∧ _ ∧ _ ∧ _ ∧ _ ∧ _ ∧ _ from ⟨below_after H10.out.1 ((Below.refl W10.heap.size W10).alloc (Nat.le_refl _) (.cells #[.slice none 0 0, .slice none 0 0, .int .i64 0, .bool false] 25)) H10.out.1.size, blk_below H10.out.2.1 ((Below.refl W10.heap.size W10).alloc (Nat.le_refl _) (.cells #[.slice none 0 0, .slice none 0 0, .int .i64 0, .bool false] 25)) (blk_lt H10.out.2.1), H10.out.2.2.1.below ((Below.refl W10.heap.size W10).alloc (Nat.le_refl _) (.cells #[.slice none 0 0, .slice none 0 0, .int .i64 0, .bool false] 25)) (Nat.le_refl _), blk_below H10.out.2.2.2.1 ((Below.refl W10.heap.size W10).alloc (Nat.le_refl _) (.cells #[.slice none 0 0, .slice none 0 0, .int .i64 0, .bool false] 25)) (blk_lt H10.out.2.2.2.1), H10.out.2.2.2.2.1.below ((Below.refl W10.heap.size W10).alloc (Nat.le_refl _) (.cells #[.slice none 0 0, .slice none 0 0, .int .i64 0, .bool false] 25)) (Nat.le_refl _), H10.out.2.2.2.2.2.1, blk_below H10.out.2.2.2.2.2.2.1 ((Below.refl W10.heap.size W10).alloc (Nat.le_refl _) (.cells #[.slice none 0 0, .slice none 0 0, .int .i64 0, .bool false] 25)) (blk_lt H10.out.2.2.2.2.2.2.1), blk_below H10.out.2.2.2.2.2.2.2 ((Below.refl W10.heap.size W10).alloc (Nat.le_refl _) (.cells #[.slice none 0 0, .slice none 0 0, .int .i64 0, .bool false] 25)) (blk_lt H10.out.2.2.2.2.2.2.2), blk_new W10 (.cells #[.slice none 0 0, .slice none 0 0, .int .i64 0, .bool false] 25)⟩)
        have hzW11 : W10.heap.size < (W10.alloc (.cells #[.slice none 0 0, .slice none 0 0, .int .i64 0, .bool false] 25)).heap.size := by simp
        generalize W10.alloc (.cells #[.slice none 0 0, .slice none 0 0, .int .i64 0, .bool false] 25) = W11 at *
        have xx0 := blk_cell H11.out.2.2.2.1 0
        have xx1 := blk_cell H11.out.2.2.2.1 1
        have xx2 := blk_cell H11.out.2.2.2.1 2
        have xx3 := blk_cell H11.out.2.2.2.1 3
        have xy0 := blk_cell H11.out.2.2.2.2.2.2.1 0
        have xy1 := blk_cell H11.out.2.2.2.2.2.2.1 1
        have xy2 := blk_cell H11.out.2.2.2.2.2.2.1 2
        have xy3 := blk_cell H11.out.2.2.2.2.2.2.1 3
        go_wp2_with fail
        clear xx0 xx1 xx2 xx3 xy0 xy1 xy2 xy3
        refine (same_any (Q.set (nW P lf.toNat).1.toNat Y) (Q.set (nW P lf.toNat).1.toNat Y2) [] [] 0 true (some ⟨b, 0, none⟩) (some ⟨b2, 0, none⟩) b 0 b2 0 sn cap cap2 none none 0 0 0 0 0 0 0 _ H11.out.2.2.1 (pens_nil _ _) H11.out.2.2.2.2.1 (pens_nil _ _) (by omega) (by omega) (sameS_torn H11.out.2.2.2.2.2.1 hQl) (fun i hi => by omega)).mono ?_
        rintro e W12 ⟨hp, hb⟩
        subst hp
        have H12 := Lib.hid (show _ ∧ _ ∧ _ ∧ _ ∧ _ ∧ _ ∧ _ ∧ _ ∧ _ from ⟨below_after H11.out.1 hb H11.out.1.size, blk_below H11.out.2.1 hb (blk_lt H11.out.2.1), H11.out.2.2.1.below hb (Nat.le_refl _), blk_below H11.out.2.2.2.1 hb (blk_lt H11.out.2.2.2.1), H11.out.2.2.2.2.1.below hb (Nat.le_refl _), H11.out.2.2.2.2.2.1, blk_below H11.out.2.2.2.2.2.2.1 hb (blk_lt H11.out.2.2.2.2.2.2.1), blk_below H11.out.2.2.2.2.2.2.2.1 hb (blk_lt H11.out.2.2.2.2.2.2.2.1), blk_below H11.out.2.2.2.2.2.2.2.2 hb (blk_lt H11.out.2.2.2.2.2.2.2.2)⟩)
        clear hb
        have xu0 := blk_cell H12.out.2.2.2.2.2.2.2.1 0
        have xu1 := blk_cell H12.out.2.2.2.2.2.2.2.1 1
        have xu2 := blk_cell H12.out.2.2.2.2.2.2.2.1 2
        have xu3 := blk_cell H12.out.2.2.2.2.2.2.2.1 3
        have xv0 := blk_cell H12.out.2.2.2.2.2.2.2.2 0
        have xv1 := blk_cell H12.out.2.2.2.2.2.2.2.2 1
        have xv2 := blk_cell H12.out.2.2.2.2.2.2.2.2 2
        have xv3 := blk_cell H12.out.2.2.2.2.2.2.2.2 3
        go_wp2_with fail
        clear xu0 xu1 xu2 xu3 xv0 xv1 xv2 xv3
        refine (same_any [] [] [] [] 0 false none none 0 0 0 0 0 0 0 none none 0 0 0 0 0 0 0 _ (secs_nil _ _) (pens_nil _ _) (secs_nil _ _) (pens_nil _ _) (by omega) (by omega) (fun i hi => by omega) (fun i hi => by omega)).mono ?_
        rintro e W13 ⟨hp, hb⟩
        subst hp
        have H13 := Lib.hid (show _ ∧ _ ∧ _ ∧ _ ∧ _ ∧ _ ∧ _ ∧ _ ∧ _ from ⟨below_after H12.out.1 hb H12.out.1.size, blk_below H12.out.2.1 hb (blk_lt H12.out.2.1), H12.out.2.2.1.below hb (Nat.le_refl _), blk_below H12.out.2.2.2.1 hb (blk_lt H12.out.2.2.2.1), H12.out.2.2.2.2.1.below hb (Nat.le_refl _), H12.out.2.2.2.2.2.1, blk_below H12.out.2.2.2.2.2.2.1 hb (blk_lt H12.out.2.2.2.2.2.2.1), blk_below H12.out.2.2.2.2.2.2.2.1 hb (blk_lt H12.out.2.2.2.2.2.2.2.1), blk_below H12.out.2.2.2.2.2.2.2.2 hb (blk_lt H12.out.2.2.2.2.2.2.2.2)⟩)
        clear hb
        go_wp2
        go_ret
        exact ⟨rfl, H13.out.1⟩
  · have HR := Lib.hid (show runB ⟨S, P, lf, st⟩ = false by simpa using hr)
    clear hr
    have xd0 := blk_cell H3.out.2 0
    have xd1 := blk_cell H3.out.2 1
    have xd2 := blk_cell H3.out.2 2
    have xd3 := blk_cell H3.out.2 3
    go_wp2_with fail
    clear xd0 xd1 xd2 xd3
    refine (sync_any S P lf st sa sb so sn sc pa pb po pn pc _ (HA.out.1.below H3.out.1 (Nat.le_refl _)) (HA.out.2.below H3.out.1 (Nat.le_refl _)) (by omega) (by omega) hpc hsz).mono ?_
    rintro e W4 ⟨hp, hb⟩
    replace hp := hp.bad HR.out
    subst hp
    have H4 := Lib.hid (show _ ∧ _ from ⟨below_after H3.out.1 hb H3.out.1.size, blk_below H3.out.2 hb (blk_lt H3.out.2)⟩)
    clear hb
    go_upto_region 6 with fail
    have H5 := Lib.hid (show _ ∧ _ ∧ _ from ⟨below_after H4.out.1 ((Below.refl W4.heap.size W4).alloc (Nat.le_refl _) (.cells #[.slice none 0 0, .slice none 0 0, .int .i64 0, .bool false] 25)) H4.out.1.size, blk_below H4.out.2 ((Below.refl W4.heap.size W4).alloc (Nat.le_refl _) (.cells #[.slice none 0 0, .slice none 0 0, .int .i64 0, .bool false] 25)) (blk_lt H4.out.2), blk_new W4 (.cells #[.slice none 0 0, .slice none 0 0, .int .i64 0, .bool false] 25)⟩)
    have hzW5 : W4.heap.size < (W4.alloc (.cells #[.slice none 0 0, .slice none 0 0, .int .i64 0, .bool false] 25)).heap.size := by simp
    generalize W4.alloc (.cells #[.slice none 0 0, .slice none 0 0, .int .i64 0, .bool false] 25) = W5 at *
    have xd0 := blk_cell H5.out.2.1 0
    have xd1 := blk_cell H5.out.2.1 1
    have xd2 := blk_cell H5.out.2.1 2
    have xd3 := blk_cell H5.out.2.1 3
    go_wp2_with fail
    clear xd0 xd1 xd2 xd3
    refine (rsync_any S P lf st sa sb so sn sc pa pb po pn pc _ (HA.out.1.below H5.out.1 (Nat.le_refl _)) (HA.out.2.below H5.out.1 (Nat.le_refl _)) (by omega) (by omega) hpc hsz).mono ?_
    rintro e W6 ⟨hp, hb⟩
    replace hp := hp.bad HR.out
    subst hp
    have H6 := Lib.hid (show _ ∧ _ ∧ _ from ⟨below_after H5.out.1 hb H5.out.1.size, blk_below H5.out.2.1 hb (blk_lt H5.out.2.1), blk_below H5.out.2.2 hb (blk_lt H5.out.2.2)⟩)
    clear hb
    go_upto_region 7 with fail
    have H7 := Lib.hid (show _ ∧ _ ∧ _ ∧ _ from ⟨below_after H6.out.1 ((Below.refl W6.heap.size W6).alloc (Nat.le_refl _) (.cells #[.slice none 0 0, .slice none 0 0, .int .i64 0, .bool false] 25)) H6.out.1.size, blk_below H6.out.2.1 ((Below.refl W6.heap.size W6).alloc (Nat.le_refl _) (.cells #[.slice none 0 0, .slice none 0 0, .int .i64 0, .bool false] 25)) (blk_lt H6.out.2.1), blk_below H6.out.2.2 ((Below.refl W6.heap.size W6).alloc (Nat.le_refl _) (.cells #[.slice none 0 0, .slice none 0 0, .int .i64 0, .bool false] 25)) (blk_lt H6.out.2.2), blk_new W6 (.cells #[.slice none 0 0, .slice none 0 0, .int .i64 0, .bool false] 25)⟩)
    have hzW7 : W6.heap.size < (W6.alloc (.cells #[.slice none 0 0, .slice none 0 0, .int .i64 0, .bool false] 25)).heap.size := by simp
    generalize W6.alloc (.cells #[.slice none 0 0, .slice none 0 0, .int .i64 0, .bool false] 25) = W7 at *
    have xd0 := blk_cell H7.out.2.1 0
    have xd1 := blk_cell H7.out.2.1 1
    have xd2 := blk_cell H7.out.2.1 2
    have xd3 := blk_cell H7.out.2.1 3
    go_wp2_with fail
    clear xd0 xd1 xd2 xd3
    refine (stop_any S P lf st sa sb so sn sc pa pb po pn pc left _ (HA.out.1.below H7.out.1 (Nat.le_refl _)) (HA.out.2.below H7.out.1 (Nat.le_refl _)) (by omega) (by omega)).mono ?_
    rintro e W8 ⟨hp, hb⟩
    replace hp := hp.bad HR.out
    subst hp
    have H8 := Lib.hid (show _ ∧ _ ∧ _ ∧ _ from ⟨below_after H7.out.1 hb H7.out.1.size, blk_below H7.out.2.1 hb (blk_lt H7.out.2.1), blk_below H7.out.2.2.1 hb (blk_lt H7.out.2.2.1), blk_below H7.out.2.2.2 hb (blk_lt H7.out.2.2.2)⟩)
    clear hb
    go_upto_region 8 with fail
    have H9 := Lib.hid (show _ ∧ _ ∧ _ ∧ _ ∧ _ from ⟨below_after H8.out.1 ((Below.refl W8.heap.size W8).alloc (Nat.le_refl _) (.cells #[.slice none 0 0, .slice none 0 0, .int .i64 0, .bool false] 25)) H8.out.1.size, blk_below H8.out.2.1 ((Below.refl W8.heap.size W8).alloc (Nat.le_refl _) (.cells #[.slice none 0 0, .slice none 0 0, .int .i64 0, .bool false] 25)) (blk_lt H8.out.2.1), blk_below H8.out.2.2.1 ((Below.refl W8.heap.size W8).alloc (Nat.le_refl _) (.cells #[.slice none 0 0, .slice none 0 0, .int .i64 0, .bool false] 25)) (blk_lt H8.out.2.2.1), blk_below H8.out.2.2.2 ((Below.refl W8.heap.size W8).alloc (Nat.le_refl _) (.cells #[.slice none 0 0, .slice none 0 0, .int .i64 0, .bool false] 25)) (blk_lt H8.out.2.2.2), blk_new W8 (.cells #[.slice none 0 0, .slice none 0 0, .int .i64 0, .bool false] 25)⟩)
    have hzW9 : W8.heap.size < (W8.alloc (.cells #[.slice none 0 0, .slice none 0 0, .int .i64 0, .bool false] 25)).heap.size := by simp
    generalize W8.alloc (.cells #[.slice none 0 0, .slice none 0 0, .int .i64 0, .bool false] 25) = W9 at *
    have xd0 := blk_cell H9.out.2.1 0
    have xd1 := blk_cell H9.out.2.1 1
    have xd2 := blk_cell H9.out.2.1 2
    have xd3 := blk_cell H9.out.2.1 3
    go_wp2_with fail
    clear xd0 xd1 xd2 xd3
    refine (rstop_any S P lf st sa sb so sn sc pa pb po pn pc left _ (HA.out.1.below H9.out.1 (Nat.le_refl _)) (HA.out.2.below H9.out.1 (Nat.le_refl _)) (by omega) (by omega)).mono ?_
    rintro e W10 ⟨hp, hb⟩
    replace hp := hp.bad HR.out
    subst hp
    have H10 := Lib.hid (show _ ∧ _ ∧ _ ∧ _ ∧ _ from ⟨below_after H9.out.1 hb H9.out.1.size, blk_below H9.out.2.1 hb (blk_lt H9.out.2.1), blk_below H9.out.2.2.1 hb (blk_lt H9.out.2.2.1), blk_below H9.out.2.2.2.1 hb (blk_lt H9.out.2.2.2.1), blk_below H9.out.2.2.2.2 hb (blk_lt H9.out.2.2.2.2)⟩)
    clear hb
    go_upto_region 9 with fail
    have H11 := Lib.hid (show _ ∧ _ ∧ _ ∧ _ ∧ _ ∧ _ from ⟨below_after H10.out.1 ((Below.refl W10.heap.size W10).alloc (Nat.le_refl _) (.cells #[.slice none 0 0, .slice none 0 0, .int .i64 0, .bool false] 25)) H10.out.1.size, blk_below H10.out.2.1 ((Below.refl W10.heap.size W10).alloc (Nat.le_refl _) (.cells #[.slice none 0 0, .slice none 0 0, .int .i64 0, .bool false] 25)) (blk_lt H10.out.2.1), blk_below H10.out.2.2.1 ((Below.refl W10.heap.size W10).alloc (Nat.le_refl _) (.cells #[.slice none 0 0, .slice none 0 0, .int .i64 0, .bool false] 25)) (blk_lt H10.out.2.2.1), blk_below H10.out.2.2.2.1 ((Below.refl W10.heap.size W10).alloc (Nat.le_refl _) (.cells #[.slice none 0 0, .slice none 0 0, .int .i64 0, .bool false] 25)) (blk_lt H10.out.2.2.2.1), blk_below H10.out.2.2.2.2 ((Below.refl W10.heap.size W10).alloc (Nat.le_refl _) (.cells #[.slice none 0 0, .slice none 0 0, .int .i64 0, .bool false] 25)) (blk_lt H10.out.2.2.2.2), blk_new W10 (.cells #[.slice none 0 0, .slice none 0 0, .int .i64 0, .bool false] 25)⟩)
    have hzW11 : W10.heap.size < (W10.alloc (.cells #[.slice none 0 0, .slice none 0 0, .int .i64 0, .bool false] 25)).heap.size := by simp
    generalize W10.alloc (.cells #[.slice none 0 0, .slice none 0 0, .int .i64 0, .bool false] 25) = W11 at *
    have xx0 := blk_cell H11.out.2.2.1 0
    have xx1 := blk_cell H11.out.2.2.1 1
    have xx2 := blk_cell H11.out.2.2.1 2
    have xx3 := blk_cell H11.out.2.2.1 3
    have xy0 := blk_cell H11.out.2.2.2.1 0
    have xy1 := blk_cell H11.out.2.2.2.1 1
    have xy2 := blk_cell H11.out.2.2.2.1 2
    have xy3 := blk_cell H11.out.2.2.2.1 3
    go_wp2_with fail
    clear xx0 xx1 xx2 xx3 xy0 xy1 xy2 xy3
    refine (same_any [] [] [] [] 0 false none none 0 0 0 0 0 0 0 none none 0 0 0 0 0 0 0 _ (secs_nil _ _) (pens_nil _ _) (secs_nil _ _) (pens_nil _ _) (by omega) (by omega) (fun i hi => by omega) (fun i hi => by omega)).mono ?_
    rintro e W12 ⟨hp, hb⟩
    subst hp
    have H12 := Lib.hid (show _ ∧ _ ∧ _ ∧ _ ∧ _ ∧ _ from ⟨below_after H11.out.1 hb H11.out.1.size, blk_below H11.out.2.1 hb (blk_lt H11.out.2.1), blk_below H11.out.2.2.1 hb (blk_lt H11.out.2.2.1), blk_below H11.out.2.2.2.1 hb (blk_lt H11.out.2.2.2.1), blk_below H11.out.2.2.2.2.1 hb (blk_lt H11.out.2.2.2.2.1), blk_below H11.out.2.2.2.2.2 hb (blk_lt H11.out.2.2.2.2.2)⟩)
    clear hb
    have xu0 := blk_cell H12.out.2.2.2.2.1 0
    have xu1 := blk_cell H12.out.2.2.2.2.1 1
    have xu2 := blk_cell H12.out.2.2.2.2.1 2
    have xu3 := blk_cell H12.out.2.2.2.2.1 3
    have xv0 := blk_cell H12.out.2.2.2.2.2 0
    have xv1 := blk_cell H12.out.2.2.2.2.2 1
    have xv2 := blk_cell H12.out.2.2.2.2.2 2
    have xv3 := blk_cell H12.out.2.2.2.2.2 3
    go_wp2_with fail
    clear xu0 xu1 xu2 xu3 xv0 xv1 xv2 xv3
    refine (same_any [] [] [] [] 0 false none none 0 0 0 0 0 0 0 none none 0 0 0 0 0 0 0 _ (secs_nil _ _) (pens_nil _ _) (secs_nil _ _) (pens_nil _ _) (by omega) (by omega) (fun i hi => by omega) (fun i hi => by omega)).mono ?_
    rintro e W13 ⟨hp, hb⟩
    subst hp
    have H13 := Lib.hid (show _ ∧ _ ∧ _ ∧ _ ∧ _ ∧ _ from ⟨below_after H12.out.1 hb H12.out.1.size, blk_below H12.out.2.1 hb (blk_lt H12.out.2.1), blk_below H12.out.2.2.1 hb (blk_lt H12.out.2.2.1), blk_below H12.out.2.2.2.1 hb (blk_lt H12.out.2.2.2.1), blk_below H12.out.2.2.2.2.1 hb (blk_lt H12.out.2.2.2.2.1), blk_below H12.out.2.2.2.2.2 hb (blk_lt H12.out.2.2.2.2.2)⟩)
    clear hb
    go_wp2
    go_ret
    exact ⟨rfl, H13.out.1⟩
end Go.Proofs.Ytbimmahlcceadaa
