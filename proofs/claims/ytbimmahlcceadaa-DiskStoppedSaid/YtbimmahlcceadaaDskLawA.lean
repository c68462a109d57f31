/- DiskStopped (layer 4). -/
import Derived.Test.YtbimmahlcceadaaDskSane
import Derived.Test.YtbimmahlcceadaaDskSame
import Derived.Test.YtbimmahlcceadaaDskFew0
namespace Go.Proofs.Ytbimmahlcceadaa
open Go.ChangeShapes Go.WideShapes Go.ChangeAt Go.RowKit
set_option linter.unusedVariables false in
set_option maxRecDepth 100000 in
set_option maxHeartbeats 4000000 in
theorem diskStopped_walk (S : List Sl) (P : List Wr) (lf : Int) (st : Bool) (sa : Option Addr) (sb so sn sc : Nat) (pa : Option Addr) (pb po pn pc : Nat) (i left : Int) (X : Sl) (w : World) (hS : Secs w sa sb so sn S) (hP : Pens w pa pb po pn P) (hsn : sn ≤ 9223372036854775807) (hpn : pn ≤ 9223372036854775807) (hpc : pn ≤ pc) (hpz : pa = none → pc = 0) (hsz : sa = none → sc = 0) (hX : SlR w X) (hlX : X.2.2.length ≤ 9223372036854775807) :
    Calls Try.prog 9 #[.agg #[.slice sa sn sc, .slice pa pn pc, .int .i64 lf, .bool st], .int .i64 i, .int .i64 left, .slice X.1 X.2.2.length X.2.1] w fun e w' => e = .returned (.bool true) ∧ Below w.heap.size w w' := by
  have HA := Lib.hid (show _ ∧ _ ∧ _ from ⟨hS, hP, hX⟩)
  clear hS hP hX
  go_enter Try.func9, Try.ntmps9
  have HW := Lib.hid (Below.refl w.heap.size w)
  go_upto_region 1 with fail
  have H1 := Lib.hid (show _ ∧ _ from ⟨below_after HW.out ((Below.refl w.heap.size w).alloc (Nat.le_refl _) (.cells #[.slice sa sn sc, .slice pa pn pc, .int .i64 lf, .bool st] 25)) HW.out.size, blk_new w (.cells #[.slice sa sn sc, .slice pa pn pc, .int .i64 lf, .bool st] 25)⟩)
  have hzW1 : w.heap.size < (w.alloc (.cells #[.slice sa sn sc, .slice pa pn pc, .int .i64 lf, .bool st] 25)).heap.size := by simp
  generalize w.alloc (.cells #[.slice sa sn sc, .slice pa pn pc, .int .i64 lf, .bool st] 25) = W1 at *
  go_wp2_with fail
  refine (sane_any _).mono ?_
  rintro e W2 ⟨hp, hb⟩
  subst hp
  have H2 := Lib.hid (show _ ∧ _ from ⟨below_after H1.out.1 hb H1.out.1.size, blk_below H1.out.2 hb (blk_lt H1.out.2)⟩)
  clear hb
  have xd0 := blk_cell H2.out.2 0
  have xd1 := blk_cell H2.out.2 1
  have xd2 := blk_cell H2.out.2 2
  have xd3 := blk_cell H2.out.2 3
  go_wp2_with fail
  clear xd0 xd1 xd2 xd3
  refine (few_all S P lf st sa sb so sn sc pa pb po pn pc _ (HA.out.1.below H2.out.1 (Nat.le_refl _)) (HA.out.2.1.below H2.out.1 (Nat.le_refl _)) (by omega) (by omega)).mono ?_
  rintro e W3 ⟨hp, hb⟩
  obtain ⟨r, rfl⟩ := hp
  have H3 := Lib.hid (show _ ∧ _ from ⟨below_after H2.out.1 hb H2.out.1.size, blk_below H2.out.2 hb (blk_lt H2.out.2)⟩)
  clear hb
  cases r
  case false =>
    go_wp2
    go_ret
    exact ⟨rfl, H3.out.1⟩
  have hl0 : ((X.2.2.length : Nat) : Int) ≤ 9223372036854775807 := by omega
  by_cases hl : 1000 < X.2.2.length
  · have c1 : (1000 : Int) < ((X.2.2.length : Nat) : Int) := by omega
    go_wp2
    go_ret
    exact ⟨rfl, H3.out.1⟩
  have c1 : ¬ (1000 : Int) < ((X.2.2.length : Nat) : Int) := by omega
  clear hl hl0
  have xd0 := blk_cell H3.out.2 0
  have xd1 := blk_cell H3.out.2 1
  have xd2 := blk_cell H3.out.2 2
  have xd3 := blk_cell H3.out.2 3
  go_wp2_with fail
  clear xd0 xd1 xd2 xd3
  refine (restart_any sa sn sc pa pn pc lf st _).mono ?_
  rintro e W4 ⟨hp, hb⟩
  subst hp
  have H4 := Lib.hid (show _ ∧ _ from ⟨below_after H3.out.1 hb H3.out.1.size, blk_below H3.out.2 hb (blk_lt H3.out.2)⟩)
  clear hb
  go_upto_region 6 with fail
  have H5 := Lib.hid (show _ ∧ _ ∧ _ from ⟨below_after H4.out.1 ((Below.refl W4.heap.size W4).alloc (Nat.le_refl _) (.cells #[.slice sa sn sc, .slice none 0 0, .int .i64 (-1), .bool false] 25)) H4.out.1.size, blk_below H4.out.2 ((Below.refl W4.heap.size W4).alloc (Nat.le_refl _) (.cells #[.slice sa sn sc, .slice none 0 0, .int .i64 (-1), .bool false] 25)) (blk_lt H4.out.2), blk_new W4 (.cells #[.slice sa sn sc, .slice none 0 0, .int .i64 (-1), .bool false] 25)⟩)
  have hzW5 : W4.heap.size < (W4.alloc (.cells #[.slice sa sn sc, .slice none 0 0, .int .i64 (-1), .bool false] 25)).heap.size := by simp
  generalize W4.alloc (.cells #[.slice sa sn sc, .slice none 0 0, .int .i64 (-1), .bool false] 25) = W5 at *
  have xx0 := blk_cell H5.out.2.2 0
  have xx1 := blk_cell H5.out.2.2 1
  have xx2 := blk_cell H5.out.2.2 2
  have xx3 := blk_cell H5.out.2.2 3
  go_wp2_with fail
  clear xx0 xx1 xx2 xx3
  refine (restart_any sa sn sc none 0 0 (-1) false _).mono ?_
  rintro e W6 ⟨hp, hb⟩
  subst hp
  have H6 := Lib.hid (show _ ∧ _ ∧ _ from ⟨below_after H5.out.1 hb H5.out.1.size, blk_below H5.out.2.1 hb (blk_lt H5.out.2.1), blk_below H5.out.2.2 hb (blk_lt H5.out.2.2)⟩)
  clear hb
  go_upto_region 7 with fail
  have H7 := Lib.hid (show _ ∧ _ ∧ _ ∧ _ from ⟨below_after H6.out.1 ((Below.refl W6.heap.size W6).alloc (Nat.le_refl _) (.cells #[.slice sa sn sc, .slice none 0 0, .int .i64 (-1), .bool false] 25)) H6.out.1.size, blk_below H6.out.2.1 ((Below.refl W6.heap.size W6).alloc (Nat.le_refl _) (.cells #[.slice sa sn sc, .slice none 0 0, .int .i64 (-1), .bool false] 25)) (blk_lt H6.out.2.1), blk_below H6.out.2.2 ((Below.refl W6.heap.size W6).alloc (Nat.le_refl _) (.cells #[.slice sa sn sc, .slice none 0 0, .int .i64 (-1), .bool false] 25)) (blk_lt H6.out.2.2), blk_new W6 (.cells #[.slice sa sn sc, .slice none 0 0, .int .i64 (-1), .bool false] 25)⟩)
  have hzW7 : W6.heap.size < (W6.alloc (.cells #[.slice sa sn sc, .slice none 0 0, .int .i64 (-1), .bool false] 25)).heap.size := by simp
  generalize W6.alloc (.cells #[.slice sa sn sc, .slice none 0 0, .int .i64 (-1), .bool false] 25) = W7 at *
  have xx0 := blk_cell H7.out.2.2.1 0
  have xx1 := blk_cell H7.out.2.2.1 1
  have xx2 := blk_cell H7.out.2.2.1 2
  have xx3 := blk_cell H7.out.2.2.1 3
  have xy0 := blk_cell H7.out.2.2.2 0
  have xy1 := blk_cell H7.out.2.2.2 1
  have xy2 := blk_cell H7.out.2.2.2 2
  have xy3 := blk_cell H7.out.2.2.2 3
  have xd0 := blk_cell H7.out.2.1 0
  have xd1 := blk_cell H7.out.2.1 1
  have xd2 := blk_cell H7.out.2.1 2
  have xd3 := blk_cell H7.out.2.1 3
  go_wp2_with fail
  clear xx0 xx1 xx2 xx3 xy0 xy1 xy2 xy3 xd0 xd1 xd2 xd3
  refine (same_any S S [] [] (-1) false sa sa sb so sb so sn sc sc none none 0 0 0 0 0 0 0 _ (HA.out.1.below H7.out.1 (Nat.le_refl _)) (pens_nil _ _) (HA.out.1.below H7.out.1 (Nat.le_refl _)) (pens_nil _ _) (by omega) (by omega) (fun i hi => rfl) (fun i hi => by omega)).mono ?_
  rintro e W8 ⟨hp, hb⟩
  subst hp
  have H8 := Lib.hid (show _ ∧ _ ∧ _ ∧ _ from ⟨below_after H7.out.1 hb H7.out.1.size, blk_below H7.out.2.1 hb (blk_lt H7.out.2.1), blk_below H7.out.2.2.1 hb (blk_lt H7.out.2.2.1), blk_below H7.out.2.2.2 hb (blk_lt H7.out.2.2.2)⟩)
  clear hb
  have xx0 := blk_cell H8.out.2.2.1 0
  have xx1 := blk_cell H8.out.2.2.1 1
  have xx2 := blk_cell H8.out.2.2.1 2
  have xx3 := blk_cell H8.out.2.2.1 3
  have xy0 := blk_cell H8.out.2.2.2 0
  have xy1 := blk_cell H8.out.2.2.2 1
  have xy2 := blk_cell H8.out.2.2.2 2
  have xy3 := blk_cell H8.out.2.2.2 3
  have xd0 := blk_cell H8.out.2.1 0
  have xd1 := blk_cell H8.out.2.1 1
  have xd2 := blk_cell H8.out.2.1 2
  have xd3 := blk_cell H8.out.2.1 3
  have j5 : ((sn : Int) != (sn : Int)) = false := by simp
  go_wp2_with fail
  clear xx0 xx1 xx2 xx3 xy0 xy1 xy2 xy3 xd0 xd1 xd2 xd3
  go_loopw [11] (fun v wr => ∃ k : Nat, k ≤ sn ∧ v = .int .i64 k ∧ Hid (Below W8.heap.size W8 wr)) (fun v _ => sn - (intOf v).toNat)
  case atStart => exact ⟨0, Nat.zero_le _, rfl, Lib.hid (Below.refl _ _)⟩
  case round =>
    obtain ⟨k, hk, rfl, HR⟩ := hrel
    have x0 := blk_cell (blk_below H8.out.2.2.1 HR.out (blk_lt H8.out.2.2.1)) 0
    have d0 := blk_cell (blk_below H8.out.2.1 HR.out (blk_lt H8.out.2.1)) 0
    by_cases hks : k < sn
    · have j1 : (k : Int) < (sn : Int) := by omega
      have j2 : ¬ (k : Int) < 0 := by omega
      have u1 : IntKind.i64.wrap ((k : Int) + 1) = ((k + 1 : Nat) : Int) := (wrap_id (by omega)).trans (by omega)
      obtain rfl := HA.out.1.adr (by omega)
      have hbw := H8.out.1.trans (HR.out.mono H8.out.1.size)
      have c2 := (hbw.cell (p := ⟨sb, so + k, none⟩) (HA.out.1.old (by omega))).trans (HA.out.1.cel k hks)
      have v2 := slr_convN ((HA.out.1.row k hks).below hbw (Nat.le_refl _))
      unfold slV at c2
      clear hbw
      generalize nS S k = V at *
      go_wp2
      go_quiet (fail)
      go_wp2
      go_roundw
      case rel => exact ⟨k + 1, hks, by go_num, Lib.hid (below_drewN HR.out)⟩
      case measure => simp [intOf]; omega
    · obtain rfl : k = sn := by omega
      have j1 : ¬ (k : Int) < (k : Int) := by omega
      clear x0 d0
      have H9 := Lib.hid (show _ ∧ _ ∧ _ ∧ _ from ⟨below_after H8.out.1 HR.out H8.out.1.size, blk_below H8.out.2.1 HR.out (blk_lt H8.out.2.1), blk_below H8.out.2.2.1 HR.out (blk_lt H8.out.2.2.1), blk_below H8.out.2.2.2 HR.out (blk_lt H8.out.2.2.2)⟩)
      have xd0 := blk_cell H9.out.2.1 0
      have fd0 := blk_free H9.out.2.1 0
      have xd1 := blk_cell H9.out.2.1 1
      have fd1 := blk_free H9.out.2.1 1
      have xd2 := blk_cell H9.out.2.1 2
      have fd2 := blk_free H9.out.2.1 2
      have xd3 := blk_cell H9.out.2.1 3
      have fd3 := blk_free H9.out.2.1 3
      go_upto_region 15 with fail
      clear xd0 fd0 xd1 fd1 xd2 fd2 xd3 fd3
      have HS := Lib.hid (show Below w.heap.size w (wr.setCell ⟨w.heap.size, 3, none⟩ (.bool true)) ∧ (wr.setCell ⟨w.heap.size, 3, none⟩ (.bool true)).heap[w.heap.size]? = some (.cells #[.slice sa k sc, .slice pa pn pc, .int .i64 lf, .bool true] 25 (0, 0)) from ⟨H9.out.1.setCell (p := ⟨w.heap.size, 3, none⟩) (Nat.le_refl _) _, cells_setU H9.out.2.1⟩)
      generalize (wr.setCell ⟨w.heap.size, 3, none⟩ (.bool true)) = WS at *
      have xd0 := blk_cell HS.out.2 0
      have xd1 := blk_cell HS.out.2 1
      have xd2 := blk_cell HS.out.2 2
      have xd3 := blk_cell HS.out.2 3
      go_wp2_with fail
      clear xd0 xd1 xd2 xd3
      refine (read_bad S P lf true sa sb so k sc pa pb po pn pc i _ (HA.out.1.below HS.out.1 (Nat.le_refl _)) (HA.out.2.1.below HS.out.1 (Nat.le_refl _)) (by omega) (by omega) (fun h => by rw [runB_f (fun g => by cases g.2)] at h; exact absurd h.1 (by simp))).mono ?_
      rintro e W10 ⟨hp, hb⟩
      subst hp
      have H10 := Lib.hid (show _ ∧ _ from ⟨below_after HS.out.1 hb HS.out.1.size, blk_below HS.out.2 hb (blk_lt HS.out.2)⟩)
      clear hb
      have xd0 := blk_cell H10.out.2 0
      have xd1 := blk_cell H10.out.2 1
      have xd2 := blk_cell H10.out.2 2
      have xd3 := blk_cell H10.out.2 3
      go_wp2_with fail
      clear xd0 xd1 xd2 xd3
      refine (write_stopped S P lf true sa sb so k sc pa pb po pn pc i X _ (HA.out.1.below H10.out.1 (Nat.le_refl _)) (HA.out.2.1.below H10.out.1 (Nat.le_refl _)) (HA.out.2.2.below H10.out.1 (Nat.le_refl _)) (by omega) (by omega) hpc hlX (fun h => by rw [runB_f (fun g => by cases g.2)] at h; exact absurd h.1 (by simp))).mono ?_
      rintro e W11 ⟨hp, hb⟩
      subst hp
      have H11 := Lib.hid (show _ ∧ _ from ⟨below_after H10.out.1 hb H10.out.1.size, blk_below H10.out.2 hb (blk_lt H10.out.2)⟩)
      clear hb
      go_upto_region 17 with fail
      have H12 := Lib.hid (show _ ∧ _ from ⟨below_after H11.out.1 ((Below.refl W11.heap.size W11).alloc (Nat.le_refl _) (.cells #[.slice none 0 0, .slice none 0 0, .int .i64 0, .bool false] 25)) H11.out.1.size, blk_below H11.out.2 ((Below.refl W11.heap.size W11).alloc (Nat.le_refl _) (.cells #[.slice none 0 0, .slice none 0 0, .int .i64 0, .bool false] 25)) (blk_lt H11.out.2)⟩)
      have hzW12 : W11.heap.size < (W11.alloc (.cells #[.slice none 0 0, .slice none 0 0, .int .i64 0, .bool false] 25)).heap.size := by simp
      generalize W11.alloc (.cells #[.slice none 0 0, .slice none 0 0, .int .i64 0, .bool false] 25) = W12 at *
      have xd0 := blk_cell H12.out.2 0
      have xd1 := blk_cell H12.out.2 1
      have xd2 := blk_cell H12.out.2 2
      have xd3 := blk_cell H12.out.2 3
      go_wp2_with fail
      clear xd0 xd1 xd2 xd3
      refine (sync_stopped S P lf true sa sb so k sc pa pb po pn pc _ (HA.out.1.below H12.out.1 (Nat.le_refl _)) (HA.out.2.1.below H12.out.1 (Nat.le_refl _)) (by omega) (by omega) hpc hsz (runB_f (fun g => by cases g.2))).mono ?_
      rintro e W13 ⟨hp, hb⟩
      subst hp
      have H13 := Lib.hid (show _ ∧ _ from ⟨below_after H12.out.1 hb H12.out.1.size, blk_below H12.out.2 hb (blk_lt H12.out.2)⟩)
      clear hb
      go_upto_region 18 with fail
      have H14 := Lib.hid (show _ ∧ _ from ⟨below_after H13.out.1 ((Below.refl W13.heap.size W13).alloc (Nat.le_refl _) (.cells #[.slice none 0 0, .slice none 0 0, .int .i64 0, .bool false] 25)) H13.out.1.size, blk_below H13.out.2 ((Below.refl W13.heap.size W13).alloc (Nat.le_refl _) (.cells #[.slice none 0 0, .slice none 0 0, .int .i64 0, .bool false] 25)) (blk_lt H13.out.2)⟩)
      have hzW14 : W13.heap.size < (W13.alloc (.cells #[.slice none 0 0, .slice none 0 0, .int .i64 0, .bool false] 25)).heap.size := by simp
      generalize W13.alloc (.cells #[.slice none 0 0, .slice none 0 0, .int .i64 0, .bool false] 25) = W14 at *
      have xd0 := blk_cell H14.out.2 0
      have xd1 := blk_cell H14.out.2 1
      have xd2 := blk_cell H14.out.2 2
      have xd3 := blk_cell H14.out.2 3
      go_wp2_with fail
      clear xd0 xd1 xd2 xd3
      refine (stop_stopped S P lf true sa sb so k sc pa pb po pn pc left _ (HA.out.1.below H14.out.1 (Nat.le_refl _)) (HA.out.2.1.below H14.out.1 (Nat.le_refl _)) (by omega) (by omega) (runB_f (fun g => by cases g.2))).mono ?_
      rintro e W15 ⟨hp, hb⟩
      subst hp
      have H15 := Lib.hid (show _ ∧ _ from ⟨below_after H14.out.1 hb H14.out.1.size, blk_below H14.out.2 hb (blk_lt H14.out.2)⟩)
      clear hb
      go_upto_region 19 with fail
      have H16 := Lib.hid (show _ ∧ _ from ⟨below_after H15.out.1 ((Below.refl W15.heap.size W15).alloc (Nat.le_refl _) (.cells #[.slice none 0 0, .slice none 0 0, .int .i64 0, .bool false] 25)) H15.out.1.size, blk_below H15.out.2 ((Below.refl W15.heap.size W15).alloc (Nat.le_refl _) (.cells #[.slice none 0 0, .slice none 0 0, .int .i64 0, .bool false] 25)) (blk_lt H15.out.2)⟩)
      have hzW16 : W15.heap.size < (W15.alloc (.cells #[.slice none 0 0, .slice none 0 0, .int .i64 0, .bool false] 25)).heap.size := by simp
      generalize W15.alloc (.cells #[.slice none 0 0, .slice none 0 0, .int .i64 0, .bool false] 25) = W16 at *
      go_wp2
      go_ret
      exact ⟨rfl, H16.out.1⟩
end Go.Proofs.Ytbimmahlcceadaa
