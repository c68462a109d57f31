/- DiskWriteSpec (layer 4). -/
import Derived.Test.YtbimmahlcceadaaDskSane
import Derived.Test.YtbimmahlcceadaaDskCase
import Derived.Test.YtbimmahlcceadaaDskFew0
import Derived.Test.YtbimmahlcceadaaDskRRead
import Derived.Test.YtbimmahlcceadaaDskRead
namespace Go.Proofs.Ytbimmahlcceadaa
open Go.ChangeShapes Go.WideShapes Go.ChangeAt Go.RowKit
theorem rdK_row {P : List Wr} {a : Int} {b : Sl} (Q : Sl → Prop) (hb : Q b) : ∀ k, (∀ j, j < k → Q (nW P j).2) → Q (rdK P a b k)
  | 0, _ => hb
  | k + 1, h => by
    unfold rdK
    split
    · exact h k (by omega)
    · exact rdK_row Q hb k (fun j hj => h j (by omega))
set_option linter.unusedVariables false in
set_option maxRecDepth 100000 in
set_option maxHeartbeats 4000000 in
theorem diskWriteSpec_walk (S : List Sl) (P : List Wr) (lf : Int) (st : Bool) (sa : Option Addr) (sb so sn sc : Nat) (pa : Option Addr) (pb po pn pc : Nat) (i : Int) (X : Sl) (w : World) (hS : Secs w sa sb so sn S) (hP : Pens w pa pb po pn P) (hsn : sn ≤ 9223372036854775807) (hpn : pn ≤ 9223372036854775807) (hpc : pn ≤ pc) (hpz : pa = none → pc = 0) (hsz : sa = none → sc = 0) (hX : SlR w X) (hlX : X.2.2.length ≤ 9223372036854775807) :
    Calls Try.prog 4 #[.agg #[.slice sa sn sc, .slice pa pn pc, .int .i64 lf, .bool st], .int .i64 i, .slice X.1 X.2.2.length X.2.1] w fun e w' => e = .returned (.bool true) ∧ Below w.heap.size w w' := by
  have HA := Lib.hid (show _ ∧ _ ∧ _ from ⟨hS, hP, hX⟩)
  clear hS hP hX
  go_enter Try.func4, Try.ntmps4
  have HW := Lib.hid (Below.refl w.heap.size w)
  go_upto_region 1 with fail
  have H1 := Lib.hid (show _ ∧ _ from ⟨below_after HW.out ((Below.refl w.heap.size w).alloc (Nat.le_refl _) (.cells #[.slice sa sn sc, .slice pa pn pc, .int .i64 lf, .bool st] 25)) HW.out.size, blk_new w (.cells #[.slice sa sn sc, .slice pa pn pc, .int .i64 lf, .bool st] 25)⟩)
  have hzW1 : w.heap.size < (w.alloc (.cells #[.slice sa sn sc, .slice pa pn pc, .int .i64 lf, .bool st] 25)).heap.size := by simp
  generalize w.alloc (.cells #[.slice sa sn sc, .slice pa pn pc, .int .i64 lf, .bool st] 25) = W1 at *
  go_wp2_with fail
  refine (sane_any _).mono ?_
  rintro e W2 ⟨hp, hb⟩
  subst hp
  have H2 := Lib.hid (show _ ∧ _ from ⟨below_after H1.out.1 hb H1.out.1.size, blk_below H1.out.2 hb (blk_lt H1.out.2)⟩)
  clear hb
  have xd0 := blk_cell H2.out.2 0
  have xd1 := blk_cell H2.out.2 1
  have xd2 := blk_cell H2.out.2 2
  have xd3 := blk_cell H2.out.2 3
  go_wp2_with fail
  clear xd0 xd1 xd2 xd3
  refine (few_all S P lf st sa sb so sn sc pa pb po pn pc _ (HA.out.1.below H2.out.1 (Nat.le_refl _)) (HA.out.2.1.below H2.out.1 (Nat.le_refl _)) (by omega) (by omega)).mono ?_
  rintro e W3 ⟨hp, hb⟩
  obtain ⟨r, rfl⟩ := hp
  have H3 := Lib.hid (show _ ∧ _ from ⟨below_after H2.out.1 hb H2.out.1.size, blk_below H2.out.2 hb (blk_lt H2.out.2)⟩)
  clear hb
  cases r
  case false =>
    go_wp2
    go_ret
    exact ⟨rfl, H3.out.1⟩
  have hl0 : ((X.2.2.length : Nat) : Int) ≤ 9223372036854775807 := by omega
  by_cases hl : 1000 < X.2.2.length
  · have c1 : (1000 : Int) < ((X.2.2.length : Nat) : Int) := by omega
    go_wp2
    go_ret
    exact ⟨rfl, H3.out.1⟩
  have c1 : ¬ (1000 : Int) < ((X.2.2.length : Nat) : Int) := by omega
  clear hl hl0
  by_cases hr : runB ⟨S, P, lf, st⟩ = true ∧ 0 ≤ i ∧ i < (sn : Int)
  · have HR := Lib.hid hr
    obtain rfl := runB_stp hr.1
    have hV := runB_valid hr.1
    clear hr
    obtain ⟨V, hRV⟩ : ∃ V, rdK P i (nS S i.toNat) pn = V := ⟨_, rfl⟩
    have hVr : SlR w V := by rw [← hRV]; exact rdK_row (SlR w) (HA.out.1.row _ (by have := HR.out; omega)) pn (fun j hj => HA.out.2.1.row j hj)
    have HVr := Lib.hid hVr
    clear hVr hV
    by_cases h1 : 128 < X.2.2.length
    · have xd0 := blk_cell H3.out.2 0
      have xd1 := blk_cell H3.out.2 1
      have xd2 := blk_cell H3.out.2 2
      have xd3 := blk_cell H3.out.2 3
      go_wp2_with fail
      clear xd0 xd1 xd2 xd3
      refine (write_any S P lf false sa sb so sn sc pa pb po pn pc i X _ (HA.out.1.below H3.out.1 (Nat.le_refl _)) (HA.out.2.1.below H3.out.1 (Nat.le_refl _)) (HA.out.2.2.below H3.out.1 (Nat.le_refl _)) (by omega) (by omega) hpc hlX).mono ?_
      rintro e W4 ⟨hp, hb⟩
      replace hp := hp.long HR.out h1
      subst hp
      have H4 := Lib.hid (show _ ∧ _ from ⟨below_after H3.out.1 hb H3.out.1.size, blk_below H3.out.2 hb (blk_lt H3.out.2)⟩)
      clear hb
      go_upto_region 6 with fail
      have H5 := Lib.hid (show _ ∧ _ ∧ _ from ⟨below_after H4.out.1 ((Below.refl W4.heap.size W4).alloc (Nat.le_refl _) (.cells #[.slice none 0 0, .slice none 0 0, .int .i64 0, .bool false] 25)) H4.out.1.size, blk_below H4.out.2 ((Below.refl W4.heap.size W4).alloc (Nat.le_refl _) (.cells #[.slice none 0 0, .slice none 0 0, .int .i64 0, .bool false] 25)) (blk_lt H4.out.2), blk_new W4 (.cells #[.slice none 0 0, .slice none 0 0, .int .i64 0, .bool false] 25)⟩)
      have hzW5 : W4.heap.size < (W4.alloc (.cells #[.slice none 0 0, .slice none 0 0, .int .i64 0, .bool false] 25)).heap.size := by simp
      generalize W4.alloc (.cells #[.slice none 0 0, .slice none 0 0, .int .i64 0, .bool false] 25) = W5 at *
      have xd0 := blk_cell H5.out.2.1 0
      have xd1 := blk_cell H5.out.2.1 1
      have xd2 := blk_cell H5.out.2.1 2
      have xd3 := blk_cell H5.out.2.1 3
      go_wp2_with fail
      clear xd0 xd1 xd2 xd3
      refine (rwrite_any S P lf false sa sb so sn sc pa pb po pn pc i X _ (HA.out.1.below H5.out.1 (Nat.le_refl _)) (HA.out.2.1.below H5.out.1 (Nat.le_refl _)) (HA.out.2.2.below H5.out.1 (Nat.le_refl _)) (by omega) (by omega) hpz hlX).mono ?_
      rintro e W6 ⟨hp, hb⟩
      replace hp := hp.long HR.out h1
      subst hp
      have H6 := Lib.hid (show _ ∧ _ ∧ _ from ⟨below_after H5.out.1 hb H5.out.1.size, blk_below H5.out.2.1 hb (blk_lt H5.out.2.1), blk_below H5.out.2.2 hb (blk_lt H5.out.2.2)⟩)
      clear hb
      go_upto_region 7 with fail
      have H7 := Lib.hid (show _ ∧ _ ∧ _ ∧ _ from ⟨below_after H6.out.1 ((Below.refl W6.heap.size W6).alloc (Nat.le_refl _) (.cells #[.slice none 0 0, .slice none 0 0, .int .i64 0, .bool false] 25)) H6.out.1.size, blk_below H6.out.2.1 ((Below.refl W6.heap.size W6).alloc (Nat.le_refl _) (.cells #[.slice none 0 0, .slice none 0 0, .int .i64 0, .bool false] 25)) (blk_lt H6.out.2.1), blk_below H6.out.2.2 ((Below.refl W6.heap.size W6).alloc (Nat.le_refl _) (.cells #[.slice none 0 0, .slice none 0 0, .int .i64 0, .bool false] 25)) (blk_lt H6.out.2.2), blk_new W6 (.cells #[.slice none 0 0, .slice none 0 0, .int .i64 0, .bool false] 25)⟩)
      have hzW7 : W6.heap.size < (W6.alloc (.cells #[.slice none 0 0, .slice none 0 0, .int .i64 0, .bool false] 25)).heap.size := by simp
      generalize W6.alloc (.cells #[.slice none 0 0, .slice none 0 0, .int .i64 0, .bool false] 25) = W7 at *
      have xd0 := blk_cell H7.out.2.1 0
      have xd1 := blk_cell H7.out.2.1 1
      have xd2 := blk_cell H7.out.2.1 2
      have xd3 := blk_cell H7.out.2.1 3
      go_wp2_with fail
      clear xd0 xd1 xd2 xd3
      refine (read_any S P lf false sa sb so sn sc pa pb po pn pc i _ (HA.out.1.below H7.out.1 (Nat.le_refl _)) (HA.out.2.1.below H7.out.1 (Nat.le_refl _)) (by omega) (by omega)).mono ?_
      rintro e W8 ⟨hp, hb⟩
      replace hp := hp.ok HR.out
      rw [hRV] at hp
      unfold slV at hp
      subst hp
      have H8 := Lib.hid (show _ ∧ _ ∧ _ ∧ _ from ⟨below_after H7.out.1 hb H7.out.1.size, blk_below H7.out.2.1 hb (blk_lt H7.out.2.1), blk_below H7.out.2.2.1 hb (blk_lt H7.out.2.2.1), blk_below H7.out.2.2.2 hb (blk_lt H7.out.2.2.2)⟩)
      clear hb
      have xd0 := blk_cell H8.out.2.1 0
      have xd1 := blk_cell H8.out.2.1 1
      have xd2 := blk_cell H8.out.2.1 2
      have xd3 := blk_cell H8.out.2.1 3
      go_wp2_with fail
      clear xd0 xd1 xd2 xd3
      refine (rread_any S P lf false sa sb so sn sc pa pb po pn pc i _ (HA.out.1.below H8.out.1 (Nat.le_refl _)) (HA.out.2.1.below H8.out.1 (Nat.le_refl _)) (by omega) (by omega)).mono ?_
      rintro e W9 ⟨hp, hb⟩
      replace hp := hp.ok HR.out
      rw [hRV] at hp
      unfold slV at hp
      subst hp
      have H9 := Lib.hid (show _ ∧ _ ∧ _ ∧ _ from ⟨below_after H8.out.1 hb H8.out.1.size, blk_below H8.out.2.1 hb (blk_lt H8.out.2.1), blk_below H8.out.2.2.1 hb (blk_lt H8.out.2.2.1), blk_below H8.out.2.2.2 hb (blk_lt H8.out.2.2.2)⟩)
      clear hb
      have xx0 := blk_cell H9.out.2.2.1 0
      have xx1 := blk_cell H9.out.2.2.1 1
      have xx2 := blk_cell H9.out.2.2.1 2
      have xx3 := blk_cell H9.out.2.2.1 3
      have xy0 := blk_cell H9.out.2.2.2 0
      have xy1 := blk_cell H9.out.2.2.2 1
      have xy2 := blk_cell H9.out.2.2.2 2
      have xy3 := blk_cell H9.out.2.2.2 3
      go_wp2_with fail
      clear xx0 xx1 xx2 xx3 xy0 xy1 xy2 xy3
      refine (same_any [] [] [] [] 0 false none none 0 0 0 0 0 0 0 none none 0 0 0 0 0 0 0 _ (secs_nil _ _) (pens_nil _ _) (secs_nil _ _) (pens_nil _ _) (by omega) (by omega) (fun i hi => by omega) (fun i hi => by omega)).mono ?_
      rintro e W10 ⟨hp, hb⟩
      subst hp
      have H10 := Lib.hid (show _ ∧ _ ∧ _ ∧ _ from ⟨below_after H9.out.1 hb H9.out.1.size, blk_below H9.out.2.1 hb (blk_lt H9.out.2.1), blk_below H9.out.2.2.1 hb (blk_lt H9.out.2.2.1), blk_below H9.out.2.2.2 hb (blk_lt H9.out.2.2.2)⟩)
      clear hb
      have v1 := slr_conv (HVr.out.below H10.out.1 (Nat.le_refl _))
      go_wp2
      go_ret
      exact ⟨rfl, H10.out.1⟩
    have h1' : X.2.2.length ≤ 128 := by omega
    by_cases h2 : pn = 4096
    · have H2 := Lib.hid h2
      clear h2
      have xd0 := blk_cell H3.out.2 0
      have xd1 := blk_cell H3.out.2 1
      have xd2 := blk_cell H3.out.2 2
      have xd3 := blk_cell H3.out.2 3
      go_wp2_with fail
      clear xd0 xd1 xd2 xd3
      refine (write_any S P lf false sa sb so sn sc pa pb po pn pc i X _ (HA.out.1.below H3.out.1 (Nat.le_refl _)) (HA.out.2.1.below H3.out.1 (Nat.le_refl _)) (HA.out.2.2.below H3.out.1 (Nat.le_refl _)) (by omega) (by omega) hpc hlX).mono ?_
      rintro e W4 ⟨hp, hb⟩
      replace hp := hp.full HR.out h1' H2.out
      subst hp
      have H4 := Lib.hid (show _ ∧ _ from ⟨below_after H3.out.1 hb H3.out.1.size, blk_below H3.out.2 hb (blk_lt H3.out.2)⟩)
      clear hb
      go_upto_region 6 with fail
      have H5 := Lib.hid (show _ ∧ _ ∧ _ from ⟨below_after H4.out.1 ((Below.refl W4.heap.size W4).alloc (Nat.le_refl _) (.cells #[.slice none 0 0, .slice none 0 0, .int .i64 0, .bool false] 25)) H4.out.1.size, blk_below H4.out.2 ((Below.refl W4.heap.size W4).alloc (Nat.le_refl _) (.cells #[.slice none 0 0, .slice none 0 0, .int .i64 0, .bool false] 25)) (blk_lt H4.out.2), blk_new W4 (.cells #[.slice none 0 0, .slice none 0 0, .int .i64 0, .bool false] 25)⟩)
      have hzW5 : W4.heap.size < (W4.alloc (.cells #[.slice none 0 0, .slice none 0 0, .int .i64 0, .bool false] 25)).heap.size := by simp
      generalize W4.alloc (.cells #[.slice none 0 0, .slice none 0 0, .int .i64 0, .bool false] 25) = W5 at *
      have xd0 := blk_cell H5.out.2.1 0
      have xd1 := blk_cell H5.out.2.1 1
      have xd2 := blk_cell H5.out.2.1 2
      have xd3 := blk_cell H5.out.2.1 3
      go_wp2_with fail
      clear xd0 xd1 xd2 xd3
      refine (rwrite_any S P lf false sa sb so sn sc pa pb po pn pc i X _ (HA.out.1.below H5.out.1 (Nat.le_refl _)) (HA.out.2.1.below H5.out.1 (Nat.le_refl _)) (HA.out.2.2.below H5.out.1 (Nat.le_refl _)) (by omega) (by omega) hpz hlX).mono ?_
      rintro e W6 ⟨hp, hb⟩
      replace hp := hp.full HR.out h1' H2.out
      subst hp
      have H6 := Lib.hid (show _ ∧ _ ∧ _ from ⟨below_after H5.out.1 hb H5.out.1.size, blk_below H5.out.2.1 hb (blk_lt H5.out.2.1), blk_below H5.out.2.2 hb (blk_lt H5.out.2.2)⟩)
      clear hb
      go_upto_region 7 with fail
      have H7 := Lib.hid (show _ ∧ _ ∧ _ ∧ _ from ⟨below_after H6.out.1 ((Below.refl W6.heap.size W6).alloc (Nat.le_refl _) (.cells #[.slice none 0 0, .slice none 0 0, .int .i64 0, .bool false] 25)) H6.out.1.size, blk_below H6.out.2.1 ((Below.refl W6.heap.size W6).alloc (Nat.le_refl _) (.cells #[.slice none 0 0, .slice none 0 0, .int .i64 0, .bool false] 25)) (blk_lt H6.out.2.1), blk_below H6.out.2.2 ((Below.refl W6.heap.size W6).alloc (Nat.le_refl _) (.cells #[.slice none 0 0, .slice none 0 0, .int .i64 0, .bool false] 25)) (blk_lt H6.out.2.2), blk_new W6 (.cells #[.slice none 0 0, .slice none 0 0, .int .i64 0, .bool false] 25)⟩)
      have hzW7 : W6.heap.size < (W6.alloc (.cells #[.slice none 0 0, .slice none 0 0, .int .i64 0, .bool false] 25)).heap.size := by simp
      generalize W6.alloc (.cells #[.slice none 0 0, .slice none 0 0, .int .i64 0, .bool false] 25) = W7 at *
      have xd0 := blk_cell H7.out.2.1 0
      have xd1 := blk_cell H7.out.2.1 1
      have xd2 := blk_cell H7.out.2.1 2
      have xd3 := blk_cell H7.out.2.1 3
      go_wp2_with fail
      clear xd0 xd1 xd2 xd3
      refine (read_any S P lf false sa sb so sn sc pa pb po pn pc i _ (HA.out.1.below H7.out.1 (Nat.le_refl _)) (HA.out.2.1.below H7.out.1 (Nat.le_refl _)) (by omega) (by omega)).mono ?_
      rintro e W8 ⟨hp, hb⟩
      replace hp := hp.ok HR.out
      rw [hRV] at hp
      unfold slV at hp
      subst hp
      have H8 := Lib.hid (show _ ∧ _ ∧ _ ∧ _ from ⟨below_after H7.out.1 hb H7.out.1.size, blk_below H7.out.2.1 hb (blk_lt H7.out.2.1), blk_below H7.out.2.2.1 hb (blk_lt H7.out.2.2.1), blk_below H7.out.2.2.2 hb (blk_lt H7.out.2.2.2)⟩)
      clear hb
      have xd0 := blk_cell H8.out.2.1 0
      have xd1 := blk_cell H8.out.2.1 1
      have xd2 := blk_cell H8.out.2.1 2
      have xd3 := blk_cell H8.out.2.1 3
      go_wp2_with fail
      clear xd0 xd1 xd2 xd3
      refine (rread_any S P lf false sa sb so sn sc pa pb po pn pc i _ (HA.out.1.below H8.out.1 (Nat.le_refl _)) (HA.out.2.1.below H8.out.1 (Nat.le_refl _)) (by omega) (by omega)).mono ?_
      rintro e W9 ⟨hp, hb⟩
      replace hp := hp.ok HR.out
      rw [hRV] at hp
      unfold slV at hp
      subst hp
      have H9 := Lib.hid (show _ ∧ _ ∧ _ ∧ _ from ⟨below_after H8.out.1 hb H8.out.1.size, blk_below H8.out.2.1 hb (blk_lt H8.out.2.1), blk_below H8.out.2.2.1 hb (blk_lt H8.out.2.2.1), blk_below H8.out.2.2.2 hb (blk_lt H8.out.2.2.2)⟩)
      clear hb
      have xx0 := blk_cell H9.out.2.2.1 0
      have xx1 := blk_cell H9.out.2.2.1 1
      have xx2 := blk_cell H9.out.2.2.1 2
      have xx3 := blk_cell H9.out.2.2.1 3
      have xy0 := blk_cell H9.out.2.2.2 0
      have xy1 := blk_cell H9.out.2.2.2 1
      have xy2 := blk_cell H9.out.2.2.2 2
      have xy3 := blk_cell H9.out.2.2.2 3
      go_wp2_with fail
      clear xx0 xx1 xx2 xx3 xy0 xy1 xy2 xy3
      refine (same_any [] [] [] [] 0 false none none 0 0 0 0 0 0 0 none none 0 0 0 0 0 0 0 _ (secs_nil _ _) (pens_nil _ _) (secs_nil _ _) (pens_nil _ _) (by omega) (by omega) (fun i hi => by omega) (fun i hi => by omega)).mono ?_
      rintro e W10 ⟨hp, hb⟩
      subst hp
      have H10 := Lib.hid (show _ ∧ _ ∧ _ ∧ _ from ⟨below_after H9.out.1 hb H9.out.1.size, blk_below H9.out.2.1 hb (blk_lt H9.out.2.1), blk_below H9.out.2.2.1 hb (blk_lt H9.out.2.2.1), blk_below H9.out.2.2.2 hb (blk_lt H9.out.2.2.2)⟩)
      clear hb
      have v1 := slr_conv (HVr.out.below H10.out.1 (Nat.le_refl _))
      go_wp2
      go_ret
      exact ⟨rfl, H10.out.1⟩
    have h2' : pn < 4096 := by have := HR.out.1; have := runB_pen this; have := HA.out.2.1.len; omega
    clear h1 h2
    have xd0 := blk_cell H3.out.2 0
    have xd1 := blk_cell H3.out.2 1
    have xd2 := blk_cell H3.out.2 2
    have xd3 := blk_cell H3.out.2 3
    go_wp2_with fail
    clear xd0 xd1 xd2 xd3
    refine (write_any S P lf false sa sb so sn sc pa pb po pn pc i X _ (HA.out.1.below H3.out.1 (Nat.le_refl _)) (HA.out.2.1.below H3.out.1 (Nat.le_refl _)) (HA.out.2.2.below H3.out.1 (Nat.le_refl _)) (by omega) (by omega) hpc hlX).mono ?_
    rintro e W4 ⟨hp, hb⟩
    obtain ⟨qa, qb, qc, Y, hY, hqc, -, -, hP1, rfl⟩ := hp.ok HR.out h1' h2'
    have H4 := Lib.hid (show _ ∧ _ ∧ _ from ⟨below_after H3.out.1 hb H3.out.1.size, blk_below H3.out.2 hb (blk_lt H3.out.2), hP1⟩)
    clear hb
    go_upto_region 6 with fail
    have H5 := Lib.hid (show _ ∧ _ ∧ _ ∧ _ from ⟨below_after H4.out.1 ((Below.refl W4.heap.size W4).alloc (Nat.le_refl _) (.cells #[.slice sa sn sc, .slice qa (pn + 1) qc, .int .i64 lf, .bool false] 25)) H4.out.1.size, blk_below H4.out.2.1 ((Below.refl W4.heap.size W4).alloc (Nat.le_refl _) (.cells #[.slice sa sn sc, .slice qa (pn + 1) qc, .int .i64 lf, .bool false] 25)) (blk_lt H4.out.2.1), H4.out.2.2.below ((Below.refl W4.heap.size W4).alloc (Nat.le_refl _) (.cells #[.slice sa sn sc, .slice qa (pn + 1) qc, .int .i64 lf, .bool false] 25)) (Nat.le_refl _), blk_new W4 (.cells #[.slice sa sn sc, .slice qa (pn + 1) qc, .int .i64 lf, .bool false] 25)⟩)
    have hzW5 : W4.heap.size < (W4.alloc (.cells #[.slice sa sn sc, .slice qa (pn + 1) qc, .int .i64 lf, .bool false] 25)).heap.size := by simp
    generalize W4.alloc (.cells #[.slice sa sn sc, .slice qa (pn + 1) qc, .int .i64 lf, .bool false] 25) = W5 at *
    have xd0 := blk_cell H5.out.2.1 0
    have xd1 := blk_cell H5.out.2.1 1
    have xd2 := blk_cell H5.out.2.1 2
    have xd3 := blk_cell H5.out.2.1 3
    go_wp2_with fail
    clear xd0 xd1 xd2 xd3
    refine (rwrite_any S P lf false sa sb so sn sc pa pb po pn pc i X _ (HA.out.1.below H5.out.1 (Nat.le_refl _)) (HA.out.2.1.below H5.out.1 (Nat.le_refl _)) (HA.out.2.2.below H5.out.1 (Nat.le_refl _)) (by omega) (by omega) hpz hlX).mono ?_
    rintro e W6 ⟨hp, hb⟩
    obtain ⟨qa2, qb2, qc2, Y2, hY2, hqc2, -, -, hP2, rfl⟩ := hp.ok HR.out h1' h2'
    have H6 := Lib.hid (show _ ∧ _ ∧ _ ∧ _ ∧ _ from ⟨below_after H5.out.1 hb H5.out.1.size, blk_below H5.out.2.1 hb (blk_lt H5.out.2.1), H5.out.2.2.1.below hb (Nat.le_refl _), blk_below H5.out.2.2.2 hb (blk_lt H5.out.2.2.2), hP2⟩)
    clear hb
    go_upto_region 7 with fail
    have H7 := Lib.hid (show _ ∧ _ ∧ _ ∧ _ ∧ _ ∧ _ from ⟨below_after H6.out.1 ((Below.refl W6.heap.size W6).alloc (Nat.le_refl _) (.cells #[.slice sa sn sc, .slice qa2 (pn + 1) qc2, .int .i64 lf, .bool false] 25)) H6.out.1.size, blk_below H6.out.2.1 ((Below.refl W6.heap.size W6).alloc (Nat.le_refl _) (.cells #[.slice sa sn sc, .slice qa2 (pn + 1) qc2, .int .i64 lf, .bool false] 25)) (blk_lt H6.out.2.1), H6.out.2.2.1.below ((Below.refl W6.heap.size W6).alloc (Nat.le_refl _) (.cells #[.slice sa sn sc, .slice qa2 (pn + 1) qc2, .int .i64 lf, .bool false] 25)) (Nat.le_refl _), blk_below H6.out.2.2.2.1 ((Below.refl W6.heap.size W6).alloc (Nat.le_refl _) (.cells #[.slice sa sn sc, .slice qa2 (pn + 1) qc2, .int .i64 lf, .bool false] 25)) (blk_lt H6.out.2.2.2.1), H6.out.2.2.2.2.below ((Below.refl W6.heap.size W6).alloc (Nat.le_refl _) (.cells #[.slice sa sn sc, .slice qa2 (pn + 1) qc2, .int .i64 lf, .bool false] 25)) (Nat.le_refl _), blk_new W6 (.cells #[.slice sa sn sc, .slice qa2 (pn + 1) qc2, .int .i64 lf, .bool false] 25)⟩)
    have hzW7 : W6.heap.size < (W6.alloc (.cells #[.slice sa sn sc, .slice qa2 (pn + 1) qc2, .int .i64 lf, .bool false] 25)).heap.size := by simp
    generalize W6.alloc (.cells #[.slice sa sn sc, .slice qa2 (pn + 1) qc2, .int .i64 lf, .bool false] 25) = W7 at *
    have xd0 := blk_cell H7.out.2.1 0
    have xd1 := blk_cell H7.out.2.1 1
    have xd2 := blk_cell H7.out.2.1 2
    have xd3 := blk_cell H7.out.2.1 3
    go_wp2_with fail
    clear xd0 xd1 xd2 xd3
    refine (read_any S P lf false sa sb so sn sc pa pb po pn pc i _ (HA.out.1.below H7.out.1 (Nat.le_refl _)) (HA.out.2.1.below H7.out.1 (Nat.le_refl _)) (by omega) (by omega)).mono ?_
    rintro e W8 ⟨hp, hb⟩
    replace hp := hp.ok HR.out
    rw [hRV] at hp
    unfold slV at hp
    subst hp
    have H8 := Lib.hid (show _ ∧ _ ∧ _ ∧ _ ∧ _ ∧ _ from ⟨below_after H7.out.1 hb H7.out.1.size, blk_below H7.out.2.1 hb (blk_lt H7.out.2.1), H7.out.2.2.1.below hb (Nat.le_refl _), blk_below H7.out.2.2.2.1 hb (blk_lt H7.out.2.2.2.1), H7.out.2.2.2.2.1.below hb (Nat.le_refl _), blk_below H7.out.2.2.2.2.2 hb (blk_lt H7.out.2.2.2.2.2)⟩)
    clear hb
    have xd0 := blk_cell H8.out.2.1 0
    have xd1 := blk_cell H8.out.2.1 1
    have xd2 := blk_cell H8.out.2.1 2
    have xd3 := blk_cell H8.out.2.1 3
    go_wp2_with fail
    clear xd0 xd1 xd2 xd3
    refine (rread_any S P lf false sa sb so sn sc pa pb po pn pc i _ (HA.out.1.below H8.out.1 (Nat.le_refl _)) (HA.out.2.1.below H8.out.1 (Nat.le_refl _)) (by omega) (by omega)).mono ?_
    rintro e W9 ⟨hp, hb⟩
    replace hp := hp.ok HR.out
    rw [hRV] at hp
    unfold slV at hp
    subst hp
    have H9 := Lib.hid (show _ ∧ _ ∧ _ ∧ _ ∧ _ ∧ _ from ⟨below_after H8.out.1 hb H8.out.1.size, blk_below H8.out.2.1 hb (blk_lt H8.out.2.1), H8.out.2.2.1.below hb (Nat.le_refl _), blk_below H8.out.2.2.2.1 hb (blk_lt H8.out.2.2.2.1), H8.out.2.2.2.2.1.below hb (Nat.le_refl _), blk_below H8.out.2.2.2.2.2 hb (blk_lt H8.out.2.2.2.2.2)⟩)
    clear hb
    have xx0 := blk_cell H9.out.2.2.2.1 0
    have xx1 := blk_cell H9.out.2.2.2.1 1
    have xx2 := blk_cell H9.out.2.2.2.1 2
    have xx3 := blk_cell H9.out.2.2.2.1 3
    have xy0 := blk_cell H9.out.2.2.2.2.2 0
    have xy1 := blk_cell H9.out.2.2.2.2.2 1
    have xy2 := blk_cell H9.out.2.2.2.2.2 2
    have xy3 := blk_cell H9.out.2.2.2.2.2 3
    go_wp2_with fail
    clear xx0 xx1 xx2 xx3 xy0 xy1 xy2 xy3
    refine (same_any S S (P ++ [(i, Y)]) (P ++ [(i, Y2)]) lf false sa sa sb so sb so sn sc sc qa qa2 qb 0 qb2 0 (pn + 1) qc qc2 _ (HA.out.1.below H9.out.1 (Nat.le_refl _)) H9.out.2.2.1 (HA.out.1.below H9.out.1 (Nat.le_refl _)) H9.out.2.2.2.2.1 (by omega) (by omega) (fun i hi => rfl) (sameP_snoc (by rw [hY, hY2]) HA.out.2.1.len)).mono ?_
    rintro e W10 ⟨hp, hb⟩
    subst hp
    have H10 := Lib.hid (show _ ∧ _ ∧ _ ∧ _ ∧ _ ∧ _ from ⟨below_after H9.out.1 hb H9.out.1.size, blk_below H9.out.2.1 hb (blk_lt H9.out.2.1), H9.out.2.2.1.below hb (Nat.le_refl _), blk_below H9.out.2.2.2.1 hb (blk_lt H9.out.2.2.2.1), H9.out.2.2.2.2.1.below hb (Nat.le_refl _), blk_below H9.out.2.2.2.2.2 hb (blk_lt H9.out.2.2.2.2.2)⟩)
    clear hb
    have v1 := slr_conv (HVr.out.below H10.out.1 (Nat.le_refl _))
    go_wp2
    go_ret
    exact ⟨rfl, H10.out.1⟩
  · have HR := Lib.hid hr
    clear hr
    have xd0 := blk_cell H3.out.2 0
    have xd1 := blk_cell H3.out.2 1
    have xd2 := blk_cell H3.out.2 2
    have xd3 := blk_cell H3.out.2 3
    go_wp2_with fail
    clear xd0 xd1 xd2 xd3
    refine (write_any S P lf st sa sb so sn sc pa pb po pn pc i X _ (HA.out.1.below H3.out.1 (Nat.le_refl _)) (HA.out.2.1.below H3.out.1 (Nat.le_refl _)) (HA.out.2.2.below H3.out.1 (Nat.le_refl _)) (by omega) (by omega) hpc hlX).mono ?_
    rintro e W4 ⟨hp, hb⟩
    replace hp := hp.bad HR.out
    subst hp
    have H4 := Lib.hid (show _ ∧ _ from ⟨below_after H3.out.1 hb H3.out.1.size, blk_below H3.out.2 hb (blk_lt H3.out.2)⟩)
    clear hb
    go_upto_region 6 with fail
    have H5 := Lib.hid (show _ ∧ _ ∧ _ from ⟨below_after H4.out.1 ((Below.refl W4.heap.size W4).alloc (Nat.le_refl _) (.cells #[.slice none 0 0, .slice none 0 0, .int .i64 0, .bool false] 25)) H4.out.1.size, blk_below H4.out.2 ((Below.refl W4.heap.size W4).alloc (Nat.le_refl _) (.cells #[.slice none 0 0, .slice none 0 0, .int .i64 0, .bool false] 25)) (blk_lt H4.out.2), blk_new W4 (.cells #[.slice none 0 0, .slice none 0 0, .int .i64 0, .bool false] 25)⟩)
    have hzW5 : W4.heap.size < (W4.alloc (.cells #[.slice none 0 0, .slice none 0 0, .int .i64 0, .bool false] 25)).heap.size := by simp
    generalize W4.alloc (.cells #[.slice none 0 0, .slice none 0 0, .int .i64 0, .bool false] 25) = W5 at *
    have xd0 := blk_cell H5.out.2.1 0
    have xd1 := blk_cell H5.out.2.1 1
    have xd2 := blk_cell H5.out.2.1 2
    have xd3 := blk_cell H5.out.2.1 3
    go_wp2_with fail
    clear xd0 xd1 xd2 xd3
    refine (rwrite_any S P lf st sa sb so sn sc pa pb po pn pc i X _ (HA.out.1.below H5.out.1 (Nat.le_refl _)) (HA.out.2.1.below H5.out.1 (Nat.le_refl _)) (HA.out.2.2.below H5.out.1 (Nat.le_refl _)) (by omega) (by omega) hpz hlX).mono ?_
    rintro e W6 ⟨hp, hb⟩
    replace hp := hp.bad HR.out
    subst hp
    have H6 := Lib.hid (show _ ∧ _ ∧ _ from ⟨below_after H5.out.1 hb H5.out.1.size, blk_below H5.out.2.1 hb (blk_lt H5.out.2.1), blk_below H5.out.2.2 hb (blk_lt H5.out.2.2)⟩)
    clear hb
    go_upto_region 7 with fail
    have H7 := Lib.hid (show _ ∧ _ ∧ _ ∧ _ from ⟨below_after H6.out.1 ((Below.refl W6.heap.size W6).alloc (Nat.le_refl _) (.cells #[.slice none 0 0, .slice none 0 0, .int .i64 0, .bool false] 25)) H6.out.1.size, blk_below H6.out.2.1 ((Below.refl W6.heap.size W6).alloc (Nat.le_refl _) (.cells #[.slice none 0 0, .slice none 0 0, .int .i64 0, .bool false] 25)) (blk_lt H6.out.2.1), blk_below H6.out.2.2 ((Below.refl W6.heap.size W6).alloc (Nat.le_refl _) (.cells #[.slice none 0 0, .slice none 0 0, .int .i64 0, .bool false] 25)) (blk_lt H6.out.2.2), blk_new W6 (.cells #[.slice none 0 0, .slice none 0 0, .int .i64 0, .bool false] 25)⟩)
    have hzW7 : W6.heap.size < (W6.alloc (.cells #[.slice none 0 0, .slice none 0 0, .int .i64 0, .bool false] 25)).heap.size := by simp
    generalize W6.alloc (.cells #[.slice none 0 0, .slice none 0 0, .int .i64 0, .bool false] 25) = W7 at *
    have xd0 := blk_cell H7.out.2.1 0
    have xd1 := blk_cell H7.out.2.1 1
    have xd2 := blk_cell H7.out.2.1 2
    have xd3 := blk_cell H7.out.2.1 3
    go_wp2_with fail
    clear xd0 xd1 xd2 xd3
    refine (read_any S P lf st sa sb so sn sc pa pb po pn pc i _ (HA.out.1.below H7.out.1 (Nat.le_refl _)) (HA.out.2.1.below H7.out.1 (Nat.le_refl _)) (by omega) (by omega)).mono ?_
    rintro e W8 ⟨hp, hb⟩
    replace hp := hp.bad HR.out
    subst hp
    have H8 := Lib.hid (show _ ∧ _ ∧ _ ∧ _ from ⟨below_after H7.out.1 hb H7.out.1.size, blk_below H7.out.2.1 hb (blk_lt H7.out.2.1), blk_below H7.out.2.2.1 hb (blk_lt H7.out.2.2.1), blk_below H7.out.2.2.2 hb (blk_lt H7.out.2.2.2)⟩)
    clear hb
    have xd0 := blk_cell H8.out.2.1 0
    have xd1 := blk_cell H8.out.2.1 1
    have xd2 := blk_cell H8.out.2.1 2
    have xd3 := blk_cell H8.out.2.1 3
    go_wp2_with fail
    clear xd0 xd1 xd2 xd3
    refine (rread_any S P lf st sa sb so sn sc pa pb po pn pc i _ (HA.out.1.below H8.out.1 (Nat.le_refl _)) (HA.out.2.1.below H8.out.1 (Nat.le_refl _)) (by omega) (by omega)).mono ?_
    rintro e W9 ⟨hp, hb⟩
    replace hp := hp.bad HR.out
    subst hp
    have H9 := Lib.hid (show _ ∧ _ ∧ _ ∧ _ from ⟨below_after H8.out.1 hb H8.out.1.size, blk_below H8.out.2.1 hb (blk_lt H8.out.2.1), blk_below H8.out.2.2.1 hb (blk_lt H8.out.2.2.1), blk_below H8.out.2.2.2 hb (blk_lt H8.out.2.2.2)⟩)
    clear hb
    have xx0 := blk_cell H9.out.2.2.1 0
    have xx1 := blk_cell H9.out.2.2.1 1
    have xx2 := blk_cell H9.out.2.2.1 2
    have xx3 := blk_cell H9.out.2.2.1 3
    have xy0 := blk_cell H9.out.2.2.2 0
    have xy1 := blk_cell H9.out.2.2.2 1
    have xy2 := blk_cell H9.out.2.2.2 2
    have xy3 := blk_cell H9.out.2.2.2 3
    go_wp2_with fail
    clear xx0 xx1 xx2 xx3 xy0 xy1 xy2 xy3
    refine (same_any [] [] [] [] 0 false none none 0 0 0 0 0 0 0 none none 0 0 0 0 0 0 0 _ (secs_nil _ _) (pens_nil _ _) (secs_nil _ _) (pens_nil _ _) (by omega) (by omega) (fun i hi => by omega) (fun i hi => by omega)).mono ?_
    rintro e W10 ⟨hp, hb⟩
    subst hp
    have H10 := Lib.hid (show _ ∧ _ ∧ _ ∧ _ from ⟨below_after H9.out.1 hb H9.out.1.size, blk_below H9.out.2.1 hb (blk_lt H9.out.2.1), blk_below H9.out.2.2.1 hb (blk_lt H9.out.2.2.1), blk_below H9.out.2.2.2 hb (blk_lt H9.out.2.2.2)⟩)
    clear hb
    have v0 := slr_conv (w := W10) (s := (none, 0, [])) ⟨0, 0, ⟨rfl, fun h => by simp at h, fun h => by simp at h, fun i hi => by simp at hi⟩, fun _ => rfl, Nat.le_refl _⟩
    have v1 : (convert 35 9 (.slice none 0 0)).run Try.prog W10 = _ := v0
    clear v0
    go_wp2
    go_ret
    exact ⟨rfl, H10.out.1⟩
end Go.Proofs.Ytbimmahlcceadaa
