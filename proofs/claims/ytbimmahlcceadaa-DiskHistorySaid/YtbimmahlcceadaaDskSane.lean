/- The examples of the chapter (layer 4). -/
import Derived.Test.YtbimmahlcceadaaDskFar
import Derived.Test.YtbimmahlcceadaaDskDbl
namespace Go.Proofs.Ytbimmahlcceadaa
open Go.ChangeShapes Go.WideShapes Go.ChangeAt Go.RowKit
def z129 : List Int := List.replicate 129 0
theorem z129_len : z129.length = 129 := List.length_replicate
theorem run_make129 (w : World) : (Instr.makeSlice 35 (.int .i64 129) (.int .i64 129)).run Try.prog w = .ok (.slice (some ⟨w.heap.size, 0, none⟩) 129 129) (w.alloc (.cells (bV z129) 5)) := by
  obtain ⟨i0, hi, hz0, hz1, hz2⟩ := info_parts info_u8
  have := run_make (P := Try.prog) w 35 5 i0 _ Try.underlying35 hi hz0 .i64 .i64 129 129 (by decide) (by decide) (by rw [hz2]; decide) (by decide)
  rw [hz1] at this
  rw [this]
  congr 3
  kernel_rfl
theorem write_longN (S : List Sl) (P : List Wr) (lf : Int) (sa : Option Addr) (sb so sn sc : Nat) (pa : Option Addr) (pb po pn pc : Nat) (i : Int) (xa : Option Addr) (xc n : Nat) (l : List Int) (hn : l.length = n) (w : World) (hS : Secs w sa sb so sn S) (hP : Pens w pa pb po pn P) (hX : SlR w (xa, xc, l)) (hsn : sn ≤ 9223372036854775807) (hpn : pn ≤ 9223372036854775807) (hpc : pn ≤ pc) (hlX : n ≤ 9223372036854775807) (hr : runB ⟨S, P, lf, false⟩ = true) (h0 : 0 ≤ i) (h1 : i < (sn : Int)) (hl : 128 < n) :
    Calls Try.prog 19 #[.agg #[.slice sa sn sc, .slice pa pn pc, .int .i64 lf, .bool false], .int .i64 i, .slice xa n xc] w fun e w' => e = .returned (.tuple #[.agg #[.slice none 0 0, .slice none 0 0, .int .i64 0, .bool false], .int .i64 1]) ∧ Below w.heap.size w w' := by
  subst hn
  exact write_long S P lf sa sb so sn sc pa pb po pn pc i (xa, xc, l) w hS hP hX hsn hpn hpc hlX hr h0 h1 hl
set_option maxRecDepth 100000 in
set_option maxHeartbeats 4000000 in
theorem sane_any (w : World) : Calls Try.prog 10 #[] w fun e w' => e = .returned (.bool true) ∧ Below w.heap.size w w' := by
  go_enter Try.func10, Try.ntmps10
  have H0 := Lib.hid (Below.refl w.heap.size w)
  go_wp2_with fail
  refine (new_bad 0 _ (by omega)).mono ?_
  rintro e W1 ⟨hp, hb⟩
  subst hp
  have H1 := Lib.hid (show _ from below_after H0.out hb H0.out.size)
  clear hb
  go_upto_region 2 with fail
  have H2 := Lib.hid (show _ from below_after H1.out ((Below.refl W1.heap.size W1).alloc (Nat.le_refl _) (.cells #[.slice none 0 0, .slice none 0 0, .int .i64 0, .bool false] 25)) H1.out.size)
  have hzW2 : W1.heap.size < (W1.alloc (.cells #[.slice none 0 0, .slice none 0 0, .int .i64 0, .bool false] 25)).heap.size := by simp
  generalize W1.alloc (.cells #[.slice none 0 0, .slice none 0 0, .int .i64 0, .bool false] 25) = W2 at *
  go_wp2_with fail
  refine (new_ok 2 _ (by omega) (by omega)).mono ?_
  rintro e W3 ⟨hp, hb⟩
  obtain ⟨b, L, rfl, hS, hz, -, hG⟩ := hp
  have hLl := hS.len
  have H3 := Lib.hid (show _ ∧ _ ∧ _ from ⟨below_after H2.out hb H2.out.size, hS, hz⟩)
  clear hb
  clear hS hG
  go_upto_region 3 with fail
  have H4 := Lib.hid (show _ ∧ _ ∧ _ ∧ _ from ⟨below_after H3.out.1 ((Below.refl W3.heap.size W3).alloc (Nat.le_refl _) (.cells #[.slice (some ⟨b, 0, none⟩) 2 2, .slice none 0 0, .int .i64 (-1), .bool false] 25)) H3.out.1.size, H3.out.2.1.below ((Below.refl W3.heap.size W3).alloc (Nat.le_refl _) (.cells #[.slice (some ⟨b, 0, none⟩) 2 2, .slice none 0 0, .int .i64 (-1), .bool false] 25)) (Nat.le_refl _), H3.out.2.2, blk_new W3 (.cells #[.slice (some ⟨b, 0, none⟩) 2 2, .slice none 0 0, .int .i64 (-1), .bool false] 25)⟩)
  have hzW4 : W3.heap.size < (W3.alloc (.cells #[.slice (some ⟨b, 0, none⟩) 2 2, .slice none 0 0, .int .i64 (-1), .bool false] 25)).heap.size := by simp
  generalize W3.alloc (.cells #[.slice (some ⟨b, 0, none⟩) 2 2, .slice none 0 0, .int .i64 (-1), .bool false] 25) = W4 at *
  have HR1 := Lib.hid (show runB ⟨L, [], -1, false⟩ = true from run_of (by omega) (by omega) (by simp) (by omega) (by omega) (fun i hi => by rw [H4.out.2.2.1 i (by omega), z128_len]) (fun i hi => by simp at hi))
  have xd0 := blk_cell H4.out.2.2.2 0
  have xd1 := blk_cell H4.out.2.2.2 1
  have xd2 := blk_cell H4.out.2.2.2 2
  have xd3 := blk_cell H4.out.2.2.2 3
  go_wp2_with fail
  clear xd0 xd1 xd2 xd3
  have H5 := Lib.hid (show _ ∧ _ ∧ _ ∧ _ ∧ _ from ⟨below_after H4.out.1 ((Below.refl W4.heap.size W4).alloc (Nat.le_refl _) (.cells #[.int .u8 7] 5)) H4.out.1.size, H4.out.2.1.below ((Below.refl W4.heap.size W4).alloc (Nat.le_refl _) (.cells #[.int .u8 7] 5)) (Nat.le_refl _), H4.out.2.2.1, blk_below H4.out.2.2.2 ((Below.refl W4.heap.size W4).alloc (Nat.le_refl _) (.cells #[.int .u8 7] 5)) (blk_lt H4.out.2.2.2), blk_new W4 (.cells #[.int .u8 7] 5)⟩)
  have hzW5 : W4.heap.size < (W4.alloc (.cells #[.int .u8 7] 5)).heap.size := by simp
  generalize W4.alloc (.cells #[.int .u8 7] 5) = W5 at *
  refine (write_ok L [] (-1) (some ⟨b, 0, none⟩) b 0 2 2 none 0 0 0 0 1 (some ⟨W4.heap.size, 0, none⟩, 1, [7]) 1 _ H5.out.2.1 (pens_nil _ _) (slr_of (L := [7]) H5.out.2.2.2.2) (by omega) (Nat.le_refl _) HR1.out (by omega) (by omega) (by simp) (by omega) rfl).mono ?_
  rintro e W6 ⟨hp, hb⟩
  obtain ⟨qa, qb, qc, Y1, hY1, hqc, hqB, hYg, hP1, rfl⟩ := hp
  replace hP1 : Pens _ qa qb 0 1 [(1, Y1)] := hP1
  have H6 := Lib.hid (show _ ∧ _ ∧ _ ∧ _ ∧ _ ∧ _ ∧ _ ∧ _ from ⟨below_after H5.out.1 hb H5.out.1.size, H5.out.2.1.below hb (Nat.le_refl _), H5.out.2.2.1, blk_below H5.out.2.2.2.1 hb (blk_lt H5.out.2.2.2.1), blk_below H5.out.2.2.2.2 hb (blk_lt H5.out.2.2.2.2), hP1, hY1, hqc⟩)
  clear hb
  clear hP1 hYg hqB hqc
  have hY1l : Y1.2.2.length = 128 := by rw [hY1]; exact padL_len (by simp)
  have HY1 := Lib.hid hY1
  clear hY1
  go_upto_region 4 with fail
  have H7 := Lib.hid (show _ ∧ _ ∧ _ ∧ _ ∧ _ ∧ _ ∧ _ ∧ _ ∧ _ from ⟨below_after H6.out.1 ((Below.refl W6.heap.size W6).alloc (Nat.le_refl _) (.cells #[.slice (some ⟨b, 0, none⟩) 2 2, .slice qa 1 qc, .int .i64 (-1), .bool false] 25)) H6.out.1.size, H6.out.2.1.below ((Below.refl W6.heap.size W6).alloc (Nat.le_refl _) (.cells #[.slice (some ⟨b, 0, none⟩) 2 2, .slice qa 1 qc, .int .i64 (-1), .bool false] 25)) (Nat.le_refl _), H6.out.2.2.1, blk_below H6.out.2.2.2.1 ((Below.refl W6.heap.size W6).alloc (Nat.le_refl _) (.cells #[.slice (some ⟨b, 0, none⟩) 2 2, .slice qa 1 qc, .int .i64 (-1), .bool false] 25)) (blk_lt H6.out.2.2.2.1), blk_below H6.out.2.2.2.2.1 ((Below.refl W6.heap.size W6).alloc (Nat.le_refl _) (.cells #[.slice (some ⟨b, 0, none⟩) 2 2, .slice qa 1 qc, .int .i64 (-1), .bool false] 25)) (blk_lt H6.out.2.2.2.2.1), H6.out.2.2.2.2.2.1.below ((Below.refl W6.heap.size W6).alloc (Nat.le_refl _) (.cells #[.slice (some ⟨b, 0, none⟩) 2 2, .slice qa 1 qc, .int .i64 (-1), .bool false] 25)) (Nat.le_refl _), H6.out.2.2.2.2.2.2.1, H6.out.2.2.2.2.2.2.2, blk_new W6 (.cells #[.slice (some ⟨b, 0, none⟩) 2 2, .slice qa 1 qc, .int .i64 (-1), .bool false] 25)⟩)
  have hzW7 : W6.heap.size < (W6.alloc (.cells #[.slice (some ⟨b, 0, none⟩) 2 2, .slice qa 1 qc, .int .i64 (-1), .bool false] 25)).heap.size := by simp
  generalize W6.alloc (.cells #[.slice (some ⟨b, 0, none⟩) 2 2, .slice qa 1 qc, .int .i64 (-1), .bool false] 25) = W7 at *
  have HR2 := Lib.hid (show ∀ lf : Int, -1 ≤ lf → lf ≤ 65536 → runB ⟨L, [(1, Y1)], lf, false⟩ = true from fun lf h1 h2 => run_of (by omega) (by omega) (by simp) h1 h2 (fun i hi => by rw [H7.out.2.2.1 i (by omega), z128_len]) (fun i hi => by simp at hi; subst hi; exact ⟨by show (0 : Int) ≤ 1; omega, by show (1 : Int) < (L.length : Int); omega, hY1l⟩))
  have xv0 := blk_cell H7.out.2.2.2.2.2.2.2.2 0
  have xv1 := blk_cell H7.out.2.2.2.2.2.2.2.2 1
  have xv2 := blk_cell H7.out.2.2.2.2.2.2.2.2 2
  have xv3 := blk_cell H7.out.2.2.2.2.2.2.2.2 3
  go_wp2_with fail
  clear xv0 xv1 xv2 xv3
  refine (read_ok L [(1, Y1)] (-1) (some ⟨b, 0, none⟩) b 0 2 2 qa qb 0 1 qc 1 _ H7.out.2.1 H7.out.2.2.2.2.2.1 (by omega) (by omega) (HR2.out _ (by omega) (by omega)) (by omega) (by omega) Y1 (rdK_yes rfl) 128 hY1l).mono ?_
  rintro e W8 ⟨hp, hb⟩
  subst hp
  have H8 := Lib.hid (show _ ∧ _ ∧ _ ∧ _ ∧ _ ∧ _ ∧ _ ∧ _ ∧ _ from ⟨below_after H7.out.1 hb H7.out.1.size, H7.out.2.1.below hb (Nat.le_refl _), H7.out.2.2.1, blk_below H7.out.2.2.2.1 hb (blk_lt H7.out.2.2.2.1), blk_below H7.out.2.2.2.2.1 hb (blk_lt H7.out.2.2.2.2.1), H7.out.2.2.2.2.2.1.below hb (Nat.le_refl _), H7.out.2.2.2.2.2.2.1, H7.out.2.2.2.2.2.2.2.1, blk_below H7.out.2.2.2.2.2.2.2.2 hb (blk_lt H7.out.2.2.2.2.2.2.2.2)⟩)
  clear hb
  have xd0 := blk_cell H8.out.2.2.2.1 0
  have xd1 := blk_cell H8.out.2.2.2.1 1
  have xd2 := blk_cell H8.out.2.2.2.1 2
  have xd3 := blk_cell H8.out.2.2.2.1 3
  go_wp2_with fail
  clear xd0 xd1 xd2 xd3
  refine (read_bad L [] (-1) false (some ⟨b, 0, none⟩) b 0 2 2 none 0 0 0 0 2 _ H8.out.2.1 (pens_nil _ _) (by omega) (by omega) (by omega)).mono ?_
  rintro e W9 ⟨hp, hb⟩
  subst hp
  have H9 := Lib.hid (show _ ∧ _ ∧ _ ∧ _ ∧ _ ∧ _ ∧ _ ∧ _ ∧ _ from ⟨below_after H8.out.1 hb H8.out.1.size, H8.out.2.1.below hb (Nat.le_refl _), H8.out.2.2.1, blk_below H8.out.2.2.2.1 hb (blk_lt H8.out.2.2.2.1), blk_below H8.out.2.2.2.2.1 hb (blk_lt H8.out.2.2.2.2.1), H8.out.2.2.2.2.2.1.below hb (Nat.le_refl _), H8.out.2.2.2.2.2.2.1, H8.out.2.2.2.2.2.2.2.1, blk_below H8.out.2.2.2.2.2.2.2.2 hb (blk_lt H8.out.2.2.2.2.2.2.2.2)⟩)
  clear hb
  go_upto_region 6 with fail
  go_cut [11, 12] from 13 (fun p v wx => v = .int .i64 1 ∧ Hid (Below W9.heap.size W9 wx))
  case first =>
    refine wp_region_from 0 1 (fun w' => w'.heap[W3.heap.size]? = some (.cells #[.slice (some ⟨b, 0, none⟩) 2 2, .slice none 0 0, .int .i64 (-1), .bool false] 25 (0, 0))) (by kernel_rfl) (by kernel_rfl) (by decide) (by kernel_rfl) (H9.out.2.2.2.1) ?_
    simp only [List.drop_zero, List.take_succ_cons, List.take_zero]
    refine wpHeld_cons (.agg #[.slice (some ⟨b, 0, none⟩) 2 2, .slice none 0 0, .int .i64 (-1), .bool false]) (by kernel_rfl) ?_ ?_
    · intro w' s
      have y0 := blk_cell s 0
      simp at y0
      have y1 := blk_cell s 1
      simp at y1
      have y2 := blk_cell s 2
      simp at y2
      have y3 := blk_cell s 3
      simp at y3
      try go_simp
    refine wpHeld_nil ?_
    go_simp
    refine wpAnyH_two (i := 1) (j := 6) (by kernel_rfl) rfl rfl (by kernel_rfl) (by kernel_rfl) (fun K' hK' => ?_) (fun K' hK' => ?_)
    · go_simp
      rw [run_make129]
      go_simp
      have K1 := Lib.hid (show Below W9.heap.size W9 (W9.alloc (.cells (bV z129) 5)).drew ∧ _ from ⟨((Below.refl _ _).alloc (Nat.le_refl _) (.cells (bV z129) 5)).drew, blk_drew (blk_new W9 (.cells (bV z129) 5))⟩)
      generalize (W9.alloc (.cells (bV z129) 5)).drew = V1 at *
      refine hK' _ _ (blk_below H9.out.2.2.2.1 K1.out.1 (blk_lt H9.out.2.2.2.1)) ?_
      clear hK' K'
      go_simp
      refine wpAnyH_two (i := 2) (j := 6) (by kernel_rfl) rfl rfl (by kernel_rfl) (by kernel_rfl) (fun K' hK' => ?_) (fun K' hK' => ?_)
      · go_simp
        refine (write_longN L [] (-1) (some ⟨b, 0, none⟩) b 0 2 2 none 0 0 0 0 0 (some ⟨W9.heap.size, 0, none⟩) 129 129 z129 z129_len _ (H9.out.2.1.below K1.out.1 (Nat.le_refl _)) (pens_nil _ _) (by have := slr_of K1.out.2; rwa [z129_len] at this) (by omega) (by omega) (Nat.le_refl _) (by omega) HR1.out (by omega) (by omega) (by omega)).mono ?_
        rintro e V2 ⟨hp, hb⟩
        subst hp
        have K2 := Lib.hid (show Below W9.heap.size W9 V2 ∧ True from ⟨below_after K1.out.1 hb K1.out.1.size, trivial⟩)
        clear hb
        refine hK' _ _ (blk_below H9.out.2.2.2.1 K2.out.1 (blk_lt H9.out.2.2.2.1)) ?_
        clear hK' K'
        go_simp
        refine wpAnyH_from (fuel := 3) 3 3 (fun _ _ _ _ _ h => h) (by kernel_rfl) (by decide) (by kernel_rfl) (blk_below H9.out.2.2.2.1 K2.out.1 (blk_lt H9.out.2.2.2.1)) ?_
        simp only [List.drop_succ_cons, List.drop_zero, List.take_succ_cons, List.take_zero]
        refine wpHeld_cons (.tuple #[.agg #[.slice none 0 0, .slice none 0 0, .int .i64 0, .bool false], .int .i64 1]) (by kernel_rfl) ?_ ?_
        · intro w' s
          try go_simp
        refine wpHeld_cons (.agg #[.slice none 0 0, .slice none 0 0, .int .i64 0, .bool false]) (by kernel_rfl) ?_ ?_
        · intro w' s
          try go_simp
        refine wpHeld_cons (.int .i64 1) (by kernel_rfl) ?_ ?_
        · intro w' s
          try go_simp
        refine wpHeld_nil ?_
        go_simp
        refine wpAnyH_one (i := 6) (by kernel_rfl) rfl (by kernel_rfl) (fun K' hK' => ?_)
        go_simp
        have K3 := Lib.hid (show Below W9.heap.size W9 (V2.alloc (.cells #[.slice none 0 0, .slice none 0 0, .int .i64 0, .bool false] 25)) ∧ W9.heap.size ≤ V2.heap.size ∧ _ from ⟨K2.out.1.alloc K2.out.1.size (.cells #[.slice none 0 0, .slice none 0 0, .int .i64 0, .bool false] 25), K2.out.1.size, blk_new V2 (.cells #[.slice none 0 0, .slice none 0 0, .int .i64 0, .bool false] 25)⟩)
        generalize V2.alloc (.cells #[.slice none 0 0, .slice none 0 0, .int .i64 0, .bool false] 25) = V3 at *
        refine hK' _ _ (blk_below H9.out.2.2.2.1 K3.out.1 (blk_lt H9.out.2.2.2.1)) ?_
        clear hK' K'
        go_simp
        refine wpAnyH_one (i := 7) (by kernel_rfl) rfl (by kernel_rfl) (fun K' hK' => ?_)
        have z0 := blk_cell K3.out.2.2 0
        have z1 := blk_cell K3.out.2.2 1
        have z2 := blk_cell K3.out.2.2 2
        have z3 := blk_cell K3.out.2.2 3
        have f0 := blk_free K3.out.2.2 0
        have f1 := blk_free K3.out.2.2 1
        have f2 := blk_free K3.out.2.2 2
        have f3 := blk_free K3.out.2.2 3
        go_simp
        have hbF := cell4_below (u0 := .slice none 0 0) (u1 := .slice none 0 0) (u2 := .int .i64 0) (u3 := .bool false) K3.out.2.1 K3.out.1
        refine hK' _ _ (blk_below H9.out.2.2.2.1 hbF (blk_lt H9.out.2.2.2.1)) ?_
        clear hK' K'
        go_simp
        refine wpAnyH_from (fuel := 0) 8 1 (fun _ _ _ _ _ h => h) (by kernel_rfl) (by decide) (by kernel_rfl) (blk_below H9.out.2.2.2.1 hbF (blk_lt H9.out.2.2.2.1)) ?_
        simp only [List.drop_succ_cons, List.drop_zero, List.take_succ_cons, List.take_zero]
        refine wpHeld_cons (.int .i64 1) (by kernel_rfl) ?_ ?_
        · intro w' s
          try go_simp
        refine wpHeld_nil ?_
        go_simp
        refine wpAnyH_done (by kernel_rfl) ?_ _
        refine NoPanic.normal ?_
        go_simp
        go_wp2_with fail
        go_meet
        case rel => exact ⟨rfl, Lib.hid hbF⟩
      · go_simp
        have K4 := Lib.hid (show Below W9.heap.size W9 (V1.alloc (.cells #[.slice none 0 0, .slice none 0 0, .int .i64 0, .bool false] 25)) ∧ W9.heap.size ≤ V1.heap.size ∧ _ ∧ _ from ⟨K1.out.1.alloc K1.out.1.size (.cells #[.slice none 0 0, .slice none 0 0, .int .i64 0, .bool false] 25), K1.out.1.size, blk_new V1 (.cells #[.slice none 0 0, .slice none 0 0, .int .i64 0, .bool false] 25), blk_alloc K1.out.2 (.cells #[.slice none 0 0, .slice none 0 0, .int .i64 0, .bool false] 25)⟩)
        generalize (V1.alloc (.cells #[.slice none 0 0, .slice none 0 0, .int .i64 0, .bool false] 25)) = V4 at *
        refine hK' _ _ (blk_below H9.out.2.2.2.1 K4.out.1 (blk_lt H9.out.2.2.2.1)) ?_
        clear hK' K'
        go_simp
        refine wpAnyH_one (i := 2) (by kernel_rfl) rfl (by kernel_rfl) (fun K' hK' => ?_)
        go_simp
        refine (write_longN L [] (-1) (some ⟨b, 0, none⟩) b 0 2 2 none 0 0 0 0 0 (some ⟨W9.heap.size, 0, none⟩) 129 129 z129 z129_len _ (H9.out.2.1.below K4.out.1 (Nat.le_refl _)) (pens_nil _ _) (by have := slr_of K4.out.2.2.2; rwa [z129_len] at this) (by omega) (by omega) (Nat.le_refl _) (by omega) HR1.out (by omega) (by omega) (by omega)).mono ?_
        rintro e V5 ⟨hp, hb⟩
        subst hp
        have K5 := Lib.hid (show Below W9.heap.size W9 V5 ∧ _ from ⟨below_after K4.out.1 hb K4.out.1.size, blk_below K4.out.2.2.1 hb (blk_lt K4.out.2.2.1)⟩)
        clear hb
        refine hK' _ _ (blk_below H9.out.2.2.2.1 K5.out.1 (blk_lt H9.out.2.2.2.1)) ?_
        clear hK' K'
        go_simp
        refine wpAnyH_from (fuel := 2) 3 3 (fun _ _ _ _ _ h => h) (by kernel_rfl) (by decide) (by kernel_rfl) (blk_below H9.out.2.2.2.1 K5.out.1 (blk_lt H9.out.2.2.2.1)) ?_
        simp only [List.drop_succ_cons, List.drop_zero, List.take_succ_cons, List.take_zero]
        refine wpHeld_cons (.tuple #[.agg #[.slice none 0 0, .slice none 0 0, .int .i64 0, .bool false], .int .i64 1]) (by kernel_rfl) ?_ ?_
        · intro w' s
          try go_simp
        refine wpHeld_cons (.agg #[.slice none 0 0, .slice none 0 0, .int .i64 0, .bool false]) (by kernel_rfl) ?_ ?_
        · intro w' s
          try go_simp
        refine wpHeld_cons (.int .i64 1) (by kernel_rfl) ?_ ?_
        · intro w' s
          try go_simp
        refine wpHeld_nil ?_
        go_simp
        refine wpAnyH_one (i := 7) (by kernel_rfl) rfl (by kernel_rfl) (fun K' hK' => ?_)
        have z0 := blk_cell K5.out.2 0
        have z1 := blk_cell K5.out.2 1
        have z2 := blk_cell K5.out.2 2
        have z3 := blk_cell K5.out.2 3
        have f0 := blk_free K5.out.2 0
        have f1 := blk_free K5.out.2 1
        have f2 := blk_free K5.out.2 2
        have f3 := blk_free K5.out.2 3
        go_simp
        have hbF := cell4_below (u0 := .slice none 0 0) (u1 := .slice none 0 0) (u2 := .int .i64 0) (u3 := .bool false) K4.out.2.1 K5.out.1
        refine hK' _ _ (blk_below H9.out.2.2.2.1 hbF (blk_lt H9.out.2.2.2.1)) ?_
        clear hK' K'
        go_simp
        refine wpAnyH_from (fuel := 0) 8 1 (fun _ _ _ _ _ h => h) (by kernel_rfl) (by decide) (by kernel_rfl) (blk_below H9.out.2.2.2.1 hbF (blk_lt H9.out.2.2.2.1)) ?_
        simp only [List.drop_succ_cons, List.drop_zero, List.take_succ_cons, List.take_zero]
        refine wpHeld_cons (.int .i64 1) (by kernel_rfl) ?_ ?_
        · intro w' s
          try go_simp
        refine wpHeld_nil ?_
        go_simp
        refine wpAnyH_done (by kernel_rfl) ?_ _
        refine NoPanic.normal ?_
        go_simp
        go_wp2_with fail
        go_meet
        case rel => exact ⟨rfl, Lib.hid hbF⟩
    · go_simp
      have K6 := Lib.hid (show Below W9.heap.size W9 (W9.alloc (.cells #[.slice none 0 0, .slice none 0 0, .int .i64 0, .bool false] 25)).drew ∧ W9.heap.size ≤ W9.heap.size ∧ _ ∧ _ from ⟨((Below.refl _ _).alloc (Nat.le_refl _) (.cells #[.slice none 0 0, .slice none 0 0, .int .i64 0, .bool false] 25)).drew, Nat.le_refl _, blk_drew (blk_new W9 (.cells #[.slice none 0 0, .slice none 0 0, .int .i64 0, .bool false] 25)), trivial⟩)
      generalize (W9.alloc (.cells #[.slice none 0 0, .slice none 0 0, .int .i64 0, .bool false] 25)).drew = V6 at *
      refine hK' _ _ (blk_below H9.out.2.2.2.1 K6.out.1 (blk_lt H9.out.2.2.2.1)) ?_
      clear hK' K'
      go_simp
      refine wpAnyH_one (i := 1) (by kernel_rfl) rfl (by kernel_rfl) (fun K' hK' => ?_)
      go_simp
      rw [run_make129]
      go_simp
      have K7 := Lib.hid (show Below W9.heap.size W9 (V6.alloc (.cells (bV z129) 5)) ∧ _ ∧ _ from ⟨K6.out.1.alloc K6.out.1.size (.cells (bV z129) 5), blk_new V6 (.cells (bV z129) 5), blk_alloc K6.out.2.2.1 (.cells (bV z129) 5)⟩)
      generalize V6.alloc (.cells (bV z129) 5) = V7 at *
      refine hK' _ _ (blk_below H9.out.2.2.2.1 K7.out.1 (blk_lt H9.out.2.2.2.1)) ?_
      clear hK' K'
      go_simp
      refine wpAnyH_one (i := 2) (by kernel_rfl) rfl (by kernel_rfl) (fun K' hK' => ?_)
      go_simp
      refine (write_longN L [] (-1) (some ⟨b, 0, none⟩) b 0 2 2 none 0 0 0 0 0 (some ⟨V6.heap.size, 0, none⟩) 129 129 z129 z129_len _ (H9.out.2.1.below K7.out.1 (Nat.le_refl _)) (pens_nil _ _) (by have := slr_of K7.out.2.1; rwa [z129_len] at this) (by omega) (by omega) (Nat.le_refl _) (by omega) HR1.out (by omega) (by omega) (by omega)).mono ?_
      rintro e V8 ⟨hp, hb⟩
      subst hp
      have K8 := Lib.hid (show Below W9.heap.size W9 V8 ∧ _ from ⟨below_after K7.out.1 hb K7.out.1.size, blk_below K7.out.2.2 hb (blk_lt K7.out.2.2)⟩)
      clear hb
      refine hK' _ _ (blk_below H9.out.2.2.2.1 K8.out.1 (blk_lt H9.out.2.2.2.1)) ?_
      clear hK' K'
      go_simp
      refine wpAnyH_from (fuel := 2) 3 3 (fun _ _ _ _ _ h => h) (by kernel_rfl) (by decide) (by kernel_rfl) (blk_below H9.out.2.2.2.1 K8.out.1 (blk_lt H9.out.2.2.2.1)) ?_
      simp only [List.drop_succ_cons, List.drop_zero, List.take_succ_cons, List.take_zero]
      refine wpHeld_cons (.tuple #[.agg #[.slice none 0 0, .slice none 0 0, .int .i64 0, .bool false], .int .i64 1]) (by kernel_rfl) ?_ ?_
      · intro w' s
        try go_simp
      refine wpHeld_cons (.agg #[.slice none 0 0, .slice none 0 0, .int .i64 0, .bool false]) (by kernel_rfl) ?_ ?_
      · intro w' s
        try go_simp
      refine wpHeld_cons (.int .i64 1) (by kernel_rfl) ?_ ?_
      · intro w' s
        try go_simp
      refine wpHeld_nil ?_
      go_simp
      refine wpAnyH_one (i := 7) (by kernel_rfl) rfl (by kernel_rfl) (fun K' hK' => ?_)
      have z0 := blk_cell K8.out.2 0
      have z1 := blk_cell K8.out.2 1
      have z2 := blk_cell K8.out.2 2
      have z3 := blk_cell K8.out.2 3
      have f0 := blk_free K8.out.2 0
      have f1 := blk_free K8.out.2 1
      have f2 := blk_free K8.out.2 2
      have f3 := blk_free K8.out.2 3
      go_simp
      have hbF := cell4_below (u0 := .slice none 0 0) (u1 := .slice none 0 0) (u2 := .int .i64 0) (u3 := .bool false) K6.out.2.1 K8.out.1
      refine hK' _ _ (blk_below H9.out.2.2.2.1 hbF (blk_lt H9.out.2.2.2.1)) ?_
      clear hK' K'
      go_simp
      refine wpAnyH_from (fuel := 0) 8 1 (fun _ _ _ _ _ h => h) (by kernel_rfl) (by decide) (by kernel_rfl) (blk_below H9.out.2.2.2.1 hbF (blk_lt H9.out.2.2.2.1)) ?_
      simp only [List.drop_succ_cons, List.drop_zero, List.take_succ_cons, List.take_zero]
      refine wpHeld_cons (.int .i64 1) (by kernel_rfl) ?_ ?_
      · intro w' s
        try go_simp
      refine wpHeld_nil ?_
      go_simp
      refine wpAnyH_done (by kernel_rfl) ?_ _
      refine NoPanic.normal ?_
      go_simp
      go_wp2_with fail
      go_meet
      case rel => exact ⟨rfl, Lib.hid hbF⟩
  case rest =>
    obtain ⟨rfl, hbc⟩ := hcut
    have H10 := Lib.hid (show _ ∧ _ ∧ _ ∧ _ ∧ _ ∧ _ ∧ _ ∧ _ ∧ _ from ⟨below_after H9.out.1 hbc.out H9.out.1.size, H9.out.2.1.below hbc.out (Nat.le_refl _), H9.out.2.2.1, blk_below H9.out.2.2.2.1 hbc.out (blk_lt H9.out.2.2.2.1), blk_below H9.out.2.2.2.2.1 hbc.out (blk_lt H9.out.2.2.2.2.1), H9.out.2.2.2.2.2.1.below hbc.out (Nat.le_refl _), H9.out.2.2.2.2.2.2.1, H9.out.2.2.2.2.2.2.2.1, blk_below H9.out.2.2.2.2.2.2.2.2 hbc.out (blk_lt H9.out.2.2.2.2.2.2.2.2)⟩)
    clear hbc
    have xv0 := blk_cell H10.out.2.2.2.2.2.2.2.2 0
    have xv1 := blk_cell H10.out.2.2.2.2.2.2.2.2 1
    have xv2 := blk_cell H10.out.2.2.2.2.2.2.2.2 2
    have xv3 := blk_cell H10.out.2.2.2.2.2.2.2.2 3
    go_wp2_with fail
    clear xv0 xv1 xv2 xv3
    refine (stop_ok L [(1, Y1)] (-1) (some ⟨b, 0, none⟩) b 0 2 2 qa qb 0 1 qc 1 _ H10.out.2.1 H10.out.2.2.2.2.2.1 (by omega) (by omega) (HR2.out _ (by omega) (by omega)) (by omega) (by omega)).mono ?_
    rintro e W11 ⟨hp, hb⟩
    subst hp
    have H11 := Lib.hid (show _ ∧ _ ∧ _ ∧ _ ∧ _ ∧ _ ∧ _ ∧ _ ∧ _ from ⟨below_after H10.out.1 hb H10.out.1.size, H10.out.2.1.below hb (Nat.le_refl _), H10.out.2.2.1, blk_below H10.out.2.2.2.1 hb (blk_lt H10.out.2.2.2.1), blk_below H10.out.2.2.2.2.1 hb (blk_lt H10.out.2.2.2.2.1), H10.out.2.2.2.2.2.1.below hb (Nat.le_refl _), H10.out.2.2.2.2.2.2.1, H10.out.2.2.2.2.2.2.2.1, blk_below H10.out.2.2.2.2.2.2.2.2 hb (blk_lt H10.out.2.2.2.2.2.2.2.2)⟩)
    clear hb
    go_upto_region 8 with fail
    have H12 := Lib.hid (show _ ∧ _ ∧ _ ∧ _ ∧ _ ∧ _ ∧ _ ∧ _ ∧ _ ∧ _ from ⟨below_after H11.out.1 ((Below.refl W11.heap.size W11).alloc (Nat.le_refl _) (.cells #[.slice (some ⟨b, 0, none⟩) 2 2, .slice qa 1 qc, .int .i64 1, .bool false] 25)) H11.out.1.size, H11.out.2.1.below ((Below.refl W11.heap.size W11).alloc (Nat.le_refl _) (.cells #[.slice (some ⟨b, 0, none⟩) 2 2, .slice qa 1 qc, .int .i64 1, .bool false] 25)) (Nat.le_refl _), H11.out.2.2.1, blk_below H11.out.2.2.2.1 ((Below.refl W11.heap.size W11).alloc (Nat.le_refl _) (.cells #[.slice (some ⟨b, 0, none⟩) 2 2, .slice qa 1 qc, .int .i64 1, .bool false] 25)) (blk_lt H11.out.2.2.2.1), blk_below H11.out.2.2.2.2.1 ((Below.refl W11.heap.size W11).alloc (Nat.le_refl _) (.cells #[.slice (some ⟨b, 0, none⟩) 2 2, .slice qa 1 qc, .int .i64 1, .bool false] 25)) (blk_lt H11.out.2.2.2.2.1), H11.out.2.2.2.2.2.1.below ((Below.refl W11.heap.size W11).alloc (Nat.le_refl _) (.cells #[.slice (some ⟨b, 0, none⟩) 2 2, .slice qa 1 qc, .int .i64 1, .bool false] 25)) (Nat.le_refl _), H11.out.2.2.2.2.2.2.1, H11.out.2.2.2.2.2.2.2.1, blk_below H11.out.2.2.2.2.2.2.2.2 ((Below.refl W11.heap.size W11).alloc (Nat.le_refl _) (.cells #[.slice (some ⟨b, 0, none⟩) 2 2, .slice qa 1 qc, .int .i64 1, .bool false] 25)) (blk_lt H11.out.2.2.2.2.2.2.2.2), blk_new W11 (.cells #[.slice (some ⟨b, 0, none⟩) 2 2, .slice qa 1 qc, .int .i64 1, .bool false] 25)⟩)
    have hzW12 : W11.heap.size < (W11.alloc (.cells #[.slice (some ⟨b, 0, none⟩) 2 2, .slice qa 1 qc, .int .i64 1, .bool false] 25)).heap.size := by simp
    have hpW12 := ((Below.refl W11.heap.size W11).alloc (Nat.le_refl _) (.cells #[.slice (some ⟨b, 0, none⟩) 2 2, .slice qa 1 qc, .int .i64 1, .bool false] 25))
    generalize W11.alloc (.cells #[.slice (some ⟨b, 0, none⟩) 2 2, .slice qa 1 qc, .int .i64 1, .bool false] 25) = W12 at *
    have r0 := blk_cell (blk_drew H12.out.2.2.2.2.2.2.2.2.2) 0
    have r1 := blk_cell (blk_drew H12.out.2.2.2.2.2.2.2.2.2) 1
    have r2 := blk_cell (blk_drew H12.out.2.2.2.2.2.2.2.2.2) 2
    have r3 := blk_cell (blk_drew H12.out.2.2.2.2.2.2.2.2.2) 3
    go_cut [15] from 16 (fun v wx => v = .int .i64 0 ∧ ∃ (qa2 : Option Addr) (qb2 qc2 : Nat) (Y2 : Sl), 2 ≤ qc2 ∧ Y2.2.2 = dblL 8 ∧ Hid (Below w.heap.size w wx ∧ wx.heap[W6.heap.size]? = some (.cells #[.slice (some ⟨b, 0, none⟩) 2 2, .slice qa 1 qc, .int .i64 (-1), .bool false] 25 (0, 0)) ∧ wx.heap[W11.heap.size]? = some (.cells #[.slice (some ⟨b, 0, none⟩) 2 2, .slice qa2 2 qc2, .int .i64 1, .bool false] 25 (0, 0)) ∧ Secs wx (some ⟨b, 0, none⟩) b 0 2 L ∧ Pens wx qa2 qb2 0 2 [(1, Y1), (0, Y2)]))
    case first =>
      refine wp_region_from 0 0 (fun _ => True) (by kernel_rfl) (by kernel_rfl) (by decide) (by kernel_rfl) (trivial) ?_
      simp only [List.drop_zero, List.take_zero]
      refine wpHeld_nil ?_
      go_simp
      refine wpAnyH_two (i := 0) (j := 1) (by kernel_rfl) rfl rfl (by kernel_rfl) (by kernel_rfl) (fun K' hK' => ?_) (fun K' hK' => ?_)
      · go_simp
        refine hK' _ _ (trivial) ?_
        clear hK' K'
        go_simp
        refine wpAnyH_one (i := 1) (by kernel_rfl) rfl (by kernel_rfl) (fun K' hK' => ?_)
        go_simp
        refine (double_any 8 _).mono ?_
        rintro e D1 ⟨⟨X, rfl, hX, hXr⟩, hb⟩
        have HXX := Lib.hid hX
        clear hX
        unfold slV
        have J1 := Lib.hid (show Below W12.heap.size W12 D1 ∧ SlR D1 X from ⟨below_after ((Below.refl W12.heap.size W12).drew) hb ((Below.refl W12.heap.size W12).drew).size, hXr⟩)
        clear hb hXr
        refine hK' _ _ (trivial) ?_
        clear hK' K'
        go_simp
        refine wpAnyH_one (i := 2) (by kernel_rfl) rfl (by kernel_rfl) (fun K' hK' => ?_)
        go_simp
        refine (write_ok L [(1, Y1)] 1 (some ⟨b, 0, none⟩) b 0 2 2 qa qb 0 1 qc 0 X 2 _ (H12.out.2.1.below J1.out.1 (Nat.le_refl _)) (H12.out.2.2.2.2.2.1.below J1.out.1 (Nat.le_refl _)) J1.out.2 (by omega) H12.out.2.2.2.2.2.2.2.1 (HR2.out _ (by omega) (by omega)) (by omega) (by omega) (by rw [HXX.out, dblL_len]; omega) (by omega) rfl).mono ?_
        rintro e D ⟨⟨qa2, qb2, qc2, Y2, hY2, hqc2, hqB2, hYg2, hP2, rfl⟩, hb⟩
        have hY2' : Y2.2.2 = dblL 8 := by rw [hY2, HXX.out]; unfold padL; rw [dblL_len]; simp
        have hlow := below_after J1.out.1 hb J1.out.1.size
        have hsz : W11.heap.size + 1 ≤ D1.heap.size := by have := J1.out.1.size; have := hzW12; omega
        have hlow2 : Below W11.heap.size W11 D1 := hpW12.trans (J1.out.1.mono (by have := hzW12; omega))
        have hlow3 : Below W11.heap.size W11 D := below_after hlow2 hb hlow2.size
        have HD := Lib.hid (show _ ∧ _ ∧ _ ∧ _ ∧ _ from ⟨blk_below H12.out.2.2.2.2.2.2.2.2.2 hlow (blk_lt H12.out.2.2.2.2.2.2.2.2.2), blk_below H12.out.2.2.2.2.2.2.2.2.1 hlow (blk_lt H12.out.2.2.2.2.2.2.2.2.1), (H11.out.2.1.f hlow3 (Nat.le_refl _) (hi := W11.heap.size + 1)), ((H11.out.2.2.2.2.2.1.f hlow2 (Nat.le_refl _) (hi := W11.heap.size + 1)).snoc hb hsz hqB2 hYg2 hP2), H12.out.1.trans (hlow.mono H12.out.1.size)⟩)
        have HQ := Lib.hid (And.intro hqc2 hY2')
        clear hY2 hY2' hqc2 hqB2 hYg2 hP2 hb hlow hlow2 hlow3 hsz
        refine hK' _ _ (trivial) ?_
        clear hK' K'
        go_simp
        refine wpAnyH_from (fuel := 2) 3 3 (fun _ _ _ _ _ h => h) (by kernel_rfl) (by decide) (by kernel_rfl) (trivial) ?_
        simp only [List.drop_succ_cons, List.drop_zero, List.take_succ_cons, List.take_zero]
        refine wpHeld_cons (.tuple #[.agg #[.slice (some ⟨b, 0, none⟩) 2 2, .slice qa2 2 qc2, .int .i64 1, .bool false], .int .i64 0]) (by kernel_rfl) ?_ ?_
        · intro w' s
          try go_simp
        refine wpHeld_cons (.agg #[.slice (some ⟨b, 0, none⟩) 2 2, .slice qa2 2 qc2, .int .i64 1, .bool false]) (by kernel_rfl) ?_ ?_
        · intro w' s
          try go_simp
        refine wpHeld_cons (.int .i64 0) (by kernel_rfl) ?_ ?_
        · intro w' s
          try go_simp
        refine wpHeld_nil ?_
        go_simp
        refine wpAnyH_one (i := 6) (by kernel_rfl) rfl (by kernel_rfl) (fun K' hK' => ?_)
        have z0 := blk_cell HD.out.1 0
        have z1 := blk_cell HD.out.1 1
        have z2 := blk_cell HD.out.1 2
        have z3 := blk_cell HD.out.1 3
        have f0 := blk_free HD.out.1 0
        have f1 := blk_free HD.out.1 1
        have f2 := blk_free HD.out.1 2
        have f3 := blk_free HD.out.1 3
        go_simp
        have hvs : W6.heap.size ≠ W11.heap.size := by have := blk_lt H11.out.2.2.2.2.2.2.2.2; omega
        have HE := Lib.hid (show Below w.heap.size w ((((D.setCell ⟨W11.heap.size, 0, none⟩ (.slice (some ⟨b, 0, none⟩) 2 2)).setCell ⟨W11.heap.size, 1, none⟩ (.slice qa2 2 qc2)).setCell ⟨W11.heap.size, 2, none⟩ (.int .i64 1)).setCell ⟨W11.heap.size, 3, none⟩ (.bool false)) ∧ ((((D.setCell ⟨W11.heap.size, 0, none⟩ (.slice (some ⟨b, 0, none⟩) 2 2)).setCell ⟨W11.heap.size, 1, none⟩ (.slice qa2 2 qc2)).setCell ⟨W11.heap.size, 2, none⟩ (.int .i64 1)).setCell ⟨W11.heap.size, 3, none⟩ (.bool false)).heap[W6.heap.size]? = some (.cells #[.slice (some ⟨b, 0, none⟩) 2 2, .slice qa 1 qc, .int .i64 (-1), .bool false] 25 (0, 0)) ∧ ((((D.setCell ⟨W11.heap.size, 0, none⟩ (.slice (some ⟨b, 0, none⟩) 2 2)).setCell ⟨W11.heap.size, 1, none⟩ (.slice qa2 2 qc2)).setCell ⟨W11.heap.size, 2, none⟩ (.int .i64 1)).setCell ⟨W11.heap.size, 3, none⟩ (.bool false)).heap[W11.heap.size]? = some (.cells #[.slice (some ⟨b, 0, none⟩) 2 2, .slice qa2 2 qc2, .int .i64 1, .bool false] 25 (0, 0)) ∧ Secs ((((D.setCell ⟨W11.heap.size, 0, none⟩ (.slice (some ⟨b, 0, none⟩) 2 2)).setCell ⟨W11.heap.size, 1, none⟩ (.slice qa2 2 qc2)).setCell ⟨W11.heap.size, 2, none⟩ (.int .i64 1)).setCell ⟨W11.heap.size, 3, none⟩ (.bool false)) (some ⟨b, 0, none⟩) b 0 2 L ∧ Pens ((((D.setCell ⟨W11.heap.size, 0, none⟩ (.slice (some ⟨b, 0, none⟩) 2 2)).setCell ⟨W11.heap.size, 1, none⟩ (.slice qa2 2 qc2)).setCell ⟨W11.heap.size, 2, none⟩ (.int .i64 1)).setCell ⟨W11.heap.size, 3, none⟩ (.bool false)) qa2 qb2 0 2 [(1, Y1), (0, Y2)] from ⟨cell4_below (u0 := .slice (some ⟨b, 0, none⟩) 2 2) (u1 := .slice qa2 2 qc2) (u2 := .int .i64 1) (u3 := .bool false) H11.out.1.size HD.out.2.2.2.2, cell4_other (u0 := .slice (some ⟨b, 0, none⟩) 2 2) (u1 := .slice qa2 2 qc2) (u2 := .int .i64 1) (u3 := .bool false) HD.out.2.1 hvs, cell4_set (u0 := .slice (some ⟨b, 0, none⟩) 2 2) (u1 := .slice qa2 2 qc2) (u2 := .int .i64 1) (u3 := .bool false) HD.out.1, (HD.out.2.2.1.upd (UpdR.set4 (c := W11.heap.size) (u0 := .slice (some ⟨b, 0, none⟩) 2 2) (u1 := .slice qa2 2 qc2) (u2 := .int .i64 1) (u3 := .bool false) (Nat.le_refl _) (Nat.lt_succ_self _))).s, (HD.out.2.2.2.1.upd (UpdR.set4 (c := W11.heap.size) (u0 := .slice (some ⟨b, 0, none⟩) 2 2) (u1 := .slice qa2 2 qc2) (u2 := .int .i64 1) (u3 := .bool false) (Nat.le_refl _) (Nat.lt_succ_self _))).s⟩)
        clear z0 z1 z2 z3 f0 f1 f2 f3 HD
        generalize ((((D.setCell ⟨W11.heap.size, 0, none⟩ (.slice (some ⟨b, 0, none⟩) 2 2)).setCell ⟨W11.heap.size, 1, none⟩ (.slice qa2 2 qc2)).setCell ⟨W11.heap.size, 2, none⟩ (.int .i64 1)).setCell ⟨W11.heap.size, 3, none⟩ (.bool false)) = WF at *
        refine hK' _ _ (trivial) ?_
        clear hK' K'
        go_simp
        refine wpAnyH_from (fuel := 0) 7 1 (fun _ _ _ _ _ h => h) (by kernel_rfl) (by decide) (by kernel_rfl) (trivial) ?_
        simp only [List.drop_succ_cons, List.drop_zero, List.take_succ_cons, List.take_zero]
        refine wpHeld_cons (.int .i64 0) (by kernel_rfl) ?_ ?_
        · intro w' s
          try go_simp
        refine wpHeld_nil ?_
        go_simp
        refine wpAnyH_done (by kernel_rfl) ?_ _
        refine NoPanic.normal ?_
        go_simp
        go_wp2_with fail
        go_meet
        case rel => exact ⟨rfl, qa2, qb2, qc2, Y2, HQ.out.1, HQ.out.2, HE⟩
      · go_simp
        refine (double_any 8 _).mono ?_
        rintro e D2 ⟨⟨X, rfl, hX, hXr⟩, hb⟩
        have HXX := Lib.hid hX
        clear hX
        unfold slV
        have J2 := Lib.hid (show Below W12.heap.size W12 D2 ∧ SlR D2 X from ⟨below_after ((Below.refl W12.heap.size W12).drew) hb ((Below.refl W12.heap.size W12).drew).size, hXr⟩)
        have q0 := blk_cell (blk_below H12.out.2.2.2.2.2.2.2.2.2 J2.out.1 (blk_lt H12.out.2.2.2.2.2.2.2.2.2)) 0
        have q1 := blk_cell (blk_below H12.out.2.2.2.2.2.2.2.2.2 J2.out.1 (blk_lt H12.out.2.2.2.2.2.2.2.2.2)) 1
        have q2 := blk_cell (blk_below H12.out.2.2.2.2.2.2.2.2.2 J2.out.1 (blk_lt H12.out.2.2.2.2.2.2.2.2.2)) 2
        have q3 := blk_cell (blk_below H12.out.2.2.2.2.2.2.2.2.2 J2.out.1 (blk_lt H12.out.2.2.2.2.2.2.2.2.2)) 3
        clear hb hXr
        refine hK' _ _ (trivial) ?_
        clear hK' K'
        go_simp
        refine wpAnyH_one (i := 0) (by kernel_rfl) rfl (by kernel_rfl) (fun K' hK' => ?_)
        go_simp
        refine hK' _ _ (trivial) ?_
        clear hK' K'
        go_simp
        refine wpAnyH_one (i := 2) (by kernel_rfl) rfl (by kernel_rfl) (fun K' hK' => ?_)
        go_simp
        refine (write_ok L [(1, Y1)] 1 (some ⟨b, 0, none⟩) b 0 2 2 qa qb 0 1 qc 0 X 2 _ (H12.out.2.1.below J2.out.1 (Nat.le_refl _)) (H12.out.2.2.2.2.2.1.below J2.out.1 (Nat.le_refl _)) J2.out.2 (by omega) H12.out.2.2.2.2.2.2.2.1 (HR2.out _ (by omega) (by omega)) (by omega) (by omega) (by rw [HXX.out, dblL_len]; omega) (by omega) rfl).mono ?_
        rintro e D ⟨⟨qa2, qb2, qc2, Y2, hY2, hqc2, hqB2, hYg2, hP2, rfl⟩, hb⟩
        have hY2' : Y2.2.2 = dblL 8 := by rw [hY2, HXX.out]; unfold padL; rw [dblL_len]; simp
        have hlow := below_after J2.out.1 hb J2.out.1.size
        have hsz : W11.heap.size + 1 ≤ D2.heap.size := by have := J2.out.1.size; have := hzW12; omega
        have hlow2 : Below W11.heap.size W11 D2 := hpW12.trans (J2.out.1.mono (by have := hzW12; omega))
        have hlow3 : Below W11.heap.size W11 D := below_after hlow2 hb hlow2.size
        have HD := Lib.hid (show _ ∧ _ ∧ _ ∧ _ ∧ _ from ⟨blk_below H12.out.2.2.2.2.2.2.2.2.2 hlow (blk_lt H12.out.2.2.2.2.2.2.2.2.2), blk_below H12.out.2.2.2.2.2.2.2.2.1 hlow (blk_lt H12.out.2.2.2.2.2.2.2.2.1), (H11.out.2.1.f hlow3 (Nat.le_refl _) (hi := W11.heap.size + 1)), ((H11.out.2.2.2.2.2.1.f hlow2 (Nat.le_refl _) (hi := W11.heap.size + 1)).snoc hb hsz hqB2 hYg2 hP2), H12.out.1.trans (hlow.mono H12.out.1.size)⟩)
        have HQ := Lib.hid (And.intro hqc2 hY2')
        clear hY2 hY2' hqc2 hqB2 hYg2 hP2 hb hlow hlow2 hlow3 hsz
        refine hK' _ _ (trivial) ?_
        clear hK' K'
        go_simp
        refine wpAnyH_from (fuel := 2) 3 3 (fun _ _ _ _ _ h => h) (by kernel_rfl) (by decide) (by kernel_rfl) (trivial) ?_
        simp only [List.drop_succ_cons, List.drop_zero, List.take_succ_cons, List.take_zero]
        refine wpHeld_cons (.tuple #[.agg #[.slice (some ⟨b, 0, none⟩) 2 2, .slice qa2 2 qc2, .int .i64 1, .bool false], .int .i64 0]) (by kernel_rfl) ?_ ?_
        · intro w' s
          try go_simp
        refine wpHeld_cons (.agg #[.slice (some ⟨b, 0, none⟩) 2 2, .slice qa2 2 qc2, .int .i64 1, .bool false]) (by kernel_rfl) ?_ ?_
        · intro w' s
          try go_simp
        refine wpHeld_cons (.int .i64 0) (by kernel_rfl) ?_ ?_
        · intro w' s
          try go_simp
        refine wpHeld_nil ?_
        go_simp
        refine wpAnyH_one (i := 6) (by kernel_rfl) rfl (by kernel_rfl) (fun K' hK' => ?_)
        have z0 := blk_cell HD.out.1 0
        have z1 := blk_cell HD.out.1 1
        have z2 := blk_cell HD.out.1 2
        have z3 := blk_cell HD.out.1 3
        have f0 := blk_free HD.out.1 0
        have f1 := blk_free HD.out.1 1
        have f2 := blk_free HD.out.1 2
        have f3 := blk_free HD.out.1 3
        go_simp
        have hvs : W6.heap.size ≠ W11.heap.size := by have := blk_lt H11.out.2.2.2.2.2.2.2.2; omega
        have HE := Lib.hid (show Below w.heap.size w ((((D.setCell ⟨W11.heap.size, 0, none⟩ (.slice (some ⟨b, 0, none⟩) 2 2)).setCell ⟨W11.heap.size, 1, none⟩ (.slice qa2 2 qc2)).setCell ⟨W11.heap.size, 2, none⟩ (.int .i64 1)).setCell ⟨W11.heap.size, 3, none⟩ (.bool false)) ∧ ((((D.setCell ⟨W11.heap.size, 0, none⟩ (.slice (some ⟨b, 0, none⟩) 2 2)).setCell ⟨W11.heap.size, 1, none⟩ (.slice qa2 2 qc2)).setCell ⟨W11.heap.size, 2, none⟩ (.int .i64 1)).setCell ⟨W11.heap.size, 3, none⟩ (.bool false)).heap[W6.heap.size]? = some (.cells #[.slice (some ⟨b, 0, none⟩) 2 2, .slice qa 1 qc, .int .i64 (-1), .bool false] 25 (0, 0)) ∧ ((((D.setCell ⟨W11.heap.size, 0, none⟩ (.slice (some ⟨b, 0, none⟩) 2 2)).setCell ⟨W11.heap.size, 1, none⟩ (.slice qa2 2 qc2)).setCell ⟨W11.heap.size, 2, none⟩ (.int .i64 1)).setCell ⟨W11.heap.size, 3, none⟩ (.bool false)).heap[W11.heap.size]? = some (.cells #[.slice (some ⟨b, 0, none⟩) 2 2, .slice qa2 2 qc2, .int .i64 1, .bool false] 25 (0, 0)) ∧ Secs ((((D.setCell ⟨W11.heap.size, 0, none⟩ (.slice (some ⟨b, 0, none⟩) 2 2)).setCell ⟨W11.heap.size, 1, none⟩ (.slice qa2 2 qc2)).setCell ⟨W11.heap.size, 2, none⟩ (.int .i64 1)).setCell ⟨W11.heap.size, 3, none⟩ (.bool false)) (some ⟨b, 0, none⟩) b 0 2 L ∧ Pens ((((D.setCell ⟨W11.heap.size, 0, none⟩ (.slice (some ⟨b, 0, none⟩) 2 2)).setCell ⟨W11.heap.size, 1, none⟩ (.slice qa2 2 qc2)).setCell ⟨W11.heap.size, 2, none⟩ (.int .i64 1)).setCell ⟨W11.heap.size, 3, none⟩ (.bool false)) qa2 qb2 0 2 [(1, Y1), (0, Y2)] from ⟨cell4_below (u0 := .slice (some ⟨b, 0, none⟩) 2 2) (u1 := .slice qa2 2 qc2) (u2 := .int .i64 1) (u3 := .bool false) H11.out.1.size HD.out.2.2.2.2, cell4_other (u0 := .slice (some ⟨b, 0, none⟩) 2 2) (u1 := .slice qa2 2 qc2) (u2 := .int .i64 1) (u3 := .bool false) HD.out.2.1 hvs, cell4_set (u0 := .slice (some ⟨b, 0, none⟩) 2 2) (u1 := .slice qa2 2 qc2) (u2 := .int .i64 1) (u3 := .bool false) HD.out.1, (HD.out.2.2.1.upd (UpdR.set4 (c := W11.heap.size) (u0 := .slice (some ⟨b, 0, none⟩) 2 2) (u1 := .slice qa2 2 qc2) (u2 := .int .i64 1) (u3 := .bool false) (Nat.le_refl _) (Nat.lt_succ_self _))).s, (HD.out.2.2.2.1.upd (UpdR.set4 (c := W11.heap.size) (u0 := .slice (some ⟨b, 0, none⟩) 2 2) (u1 := .slice qa2 2 qc2) (u2 := .int .i64 1) (u3 := .bool false) (Nat.le_refl _) (Nat.lt_succ_self _))).s⟩)
        clear z0 z1 z2 z3 f0 f1 f2 f3 HD
        generalize ((((D.setCell ⟨W11.heap.size, 0, none⟩ (.slice (some ⟨b, 0, none⟩) 2 2)).setCell ⟨W11.heap.size, 1, none⟩ (.slice qa2 2 qc2)).setCell ⟨W11.heap.size, 2, none⟩ (.int .i64 1)).setCell ⟨W11.heap.size, 3, none⟩ (.bool false)) = WF at *
        refine hK' _ _ (trivial) ?_
        clear hK' K'
        go_simp
        refine wpAnyH_from (fuel := 0) 7 1 (fun _ _ _ _ _ h => h) (by kernel_rfl) (by decide) (by kernel_rfl) (trivial) ?_
        simp only [List.drop_succ_cons, List.drop_zero, List.take_succ_cons, List.take_zero]
        refine wpHeld_cons (.int .i64 0) (by kernel_rfl) ?_ ?_
        · intro w' s
          try go_simp
        refine wpHeld_nil ?_
        go_simp
        refine wpAnyH_done (by kernel_rfl) ?_ _
        refine NoPanic.normal ?_
        go_simp
        go_wp2_with fail
        go_meet
        case rel => exact ⟨rfl, qa2, qb2, qc2, Y2, HQ.out.1, HQ.out.2, HE⟩
    case rest =>
      obtain ⟨rfl, qa2, qb2, qc2, Y2, hqc2, hY2, HC⟩ := hcut
      have HY2 := Lib.hid hY2
      clear hY2
      have hY2l : Y2.2.2.length = 128 := by rw [HY2.out, dblL_len]
      have HR3 := Lib.hid (show runB ⟨L, [(1, Y1), (0, Y2)], 1, false⟩ = true from run_of (by omega) (by omega) (by simp) (by omega) (by omega) (fun i hi => by rw [hz i (by omega), z128_len]) (fun i hi => by rcases i with _ | _ | i; exact ⟨by show (0 : Int) ≤ 1; omega, by show (1 : Int) < (L.length : Int); omega, hY1l⟩; exact ⟨by show (0 : Int) ≤ 0; omega, by show (0 : Int) < (L.length : Int); omega, hY2l⟩; simp at hi; omega))
      have xs0 := blk_cell HC.out.2.2.1 0
      have xs1 := blk_cell HC.out.2.2.1 1
      have xs2 := blk_cell HC.out.2.2.1 2
      have xs3 := blk_cell HC.out.2.2.1 3
      go_wp2_with fail
      clear xs0 xs1 xs2 xs3
      refine (sync_torn L [(1, Y1), (0, Y2)] 1 (some ⟨b, 0, none⟩) b 0 2 2 qa2 qb2 0 2 qc2 _ HC.out.2.2.2.1 HC.out.2.2.2.2 (by omega) (by omega) hqc2 (fun h => by cases h) HR3.out (by omega)).mono ?_
      rintro e Wb1 ⟨hp, hb⟩
      obtain ⟨g, cap, Y3, hcap, -, -, hY3, hS3, rfl⟩ := hp
      replace hS3 : Secs _ (some ⟨g, 0, none⟩) g 0 2 ((L.set 1 Y1).set 0 Y3) := hS3
      obtain ⟨M, hM⟩ : ∃ M, M = (L.set 1 Y1).set 0 Y3 := ⟨_, rfl⟩
      rw [← hM] at hS3
      have hM0 : nS M 0 = Y3 := by rw [hM, nS_set (by simp; omega)]
      have hM1 : nS M 1 = Y1 := by rw [hM, nS_set_ne (by omega), nS_set (by omega)]
      have hMl : M.length = 2 := by rw [hM]; simp; omega
      replace hY3 : Y3.2.2 = tornL (dblL 8) z128 := by
        rw [hY3]
        show tornL Y2.2.2 (nS (L.set 1 Y1) 0).2.2 = _
        rw [HY2.out, nS_set_ne (by omega), hz 0 (by omega)]
      have hY3l : Y3.2.2.length = 128 := by rw [hY3]; kernel_rfl
      have HY3 := Lib.hid (And.intro hY3 hM)
      clear hY3 hM
      have Hb1 := Lib.hid (show _ ∧ _ ∧ _ ∧ _ from ⟨below_after HC.out.1 hb HC.out.1.size, blk_below HC.out.2.1 hb (blk_lt HC.out.2.1), HC.out.2.2.2.1.below hb (Nat.le_refl _), hS3⟩)
      clear hb
      clear hS3
      go_upto_region 10 with fail
      have Hb2 := Lib.hid (show _ ∧ _ ∧ _ ∧ _ ∧ _ from ⟨below_after Hb1.out.1 ((Below.refl Wb1.heap.size Wb1).alloc (Nat.le_refl _) (.cells #[.slice (some ⟨g, 0, none⟩) 2 cap, .slice none 0 0, .int .i64 0, .bool true] 25)) Hb1.out.1.size, blk_below Hb1.out.2.1 ((Below.refl Wb1.heap.size Wb1).alloc (Nat.le_refl _) (.cells #[.slice (some ⟨g, 0, none⟩) 2 cap, .slice none 0 0, .int .i64 0, .bool true] 25)) (blk_lt Hb1.out.2.1), Hb1.out.2.2.1.below ((Below.refl Wb1.heap.size Wb1).alloc (Nat.le_refl _) (.cells #[.slice (some ⟨g, 0, none⟩) 2 cap, .slice none 0 0, .int .i64 0, .bool true] 25)) (Nat.le_refl _), Hb1.out.2.2.2.below ((Below.refl Wb1.heap.size Wb1).alloc (Nat.le_refl _) (.cells #[.slice (some ⟨g, 0, none⟩) 2 cap, .slice none 0 0, .int .i64 0, .bool true] 25)) (Nat.le_refl _), blk_new Wb1 (.cells #[.slice (some ⟨g, 0, none⟩) 2 cap, .slice none 0 0, .int .i64 0, .bool true] 25)⟩)
      have hzWb2 : Wb1.heap.size < (Wb1.alloc (.cells #[.slice (some ⟨g, 0, none⟩) 2 cap, .slice none 0 0, .int .i64 0, .bool true] 25)).heap.size := by simp
      have hpWb2 := ((Below.refl Wb1.heap.size Wb1).alloc (Nat.le_refl _) (.cells #[.slice (some ⟨g, 0, none⟩) 2 cap, .slice none 0 0, .int .i64 0, .bool true] 25))
      generalize Wb1.alloc (.cells #[.slice (some ⟨g, 0, none⟩) 2 cap, .slice none 0 0, .int .i64 0, .bool true] 25) = Wb2 at *
      have xx0 := blk_cell Hb2.out.2.2.2.2 0
      have xx1 := blk_cell Hb2.out.2.2.2.2 1
      have xx2 := blk_cell Hb2.out.2.2.2.2 2
      have xx3 := blk_cell Hb2.out.2.2.2.2 3
      go_wp2_with fail
      clear xx0 xx1 xx2 xx3
      refine (restart_any (some ⟨g, 0, none⟩) 2 cap none 0 0 0 true _).mono ?_
      rintro e Wb3 ⟨hp, hb⟩
      subst hp
      have hrr := hb
      have Hb3 := Lib.hid (show _ ∧ _ ∧ _ ∧ _ ∧ _ from ⟨below_after Hb2.out.1 hb Hb2.out.1.size, blk_below Hb2.out.2.1 hb (blk_lt Hb2.out.2.1), Hb2.out.2.2.1.below hb (Nat.le_refl _), Hb2.out.2.2.2.1.below hb (Nat.le_refl _), blk_below Hb2.out.2.2.2.2 hb (blk_lt Hb2.out.2.2.2.2)⟩)
      clear hb
      have xx0 := blk_cell Hb3.out.2.2.2.2 0
      have fx0 := blk_free Hb3.out.2.2.2.2 0
      have xx1 := blk_cell Hb3.out.2.2.2.2 1
      have fx1 := blk_free Hb3.out.2.2.2.2 1
      have xx2 := blk_cell Hb3.out.2.2.2.2 2
      have fx2 := blk_free Hb3.out.2.2.2.2 2
      have xx3 := blk_cell Hb3.out.2.2.2.2 3
      have fx3 := blk_free Hb3.out.2.2.2.2 3
      go_upto_region 13 with fail
      clear xx0 fx0 xx1 fx1 xx2 fx2 xx3 fx3
      have hq := cell4_below (u0 := .slice (some ⟨g, 0, none⟩) 2 cap) (u1 := .slice none 0 0) (u2 := .int .i64 (-1)) (u3 := .bool false) (Nat.le_refl _) (hpWb2.trans (hrr.mono hpWb2.size))
      have HX := Lib.hid (show Below w.heap.size w ((((Wb3.setCell ⟨Wb1.heap.size, 0, none⟩ (.slice (some ⟨g, 0, none⟩) 2 cap)).setCell ⟨Wb1.heap.size, 1, none⟩ (.slice none 0 0)).setCell ⟨Wb1.heap.size, 2, none⟩ (.int .i64 (-1))).setCell ⟨Wb1.heap.size, 3, none⟩ (.bool false)) ∧ _ ∧ ((((Wb3.setCell ⟨Wb1.heap.size, 0, none⟩ (.slice (some ⟨g, 0, none⟩) 2 cap)).setCell ⟨Wb1.heap.size, 1, none⟩ (.slice none 0 0)).setCell ⟨Wb1.heap.size, 2, none⟩ (.int .i64 (-1))).setCell ⟨Wb1.heap.size, 3, none⟩ (.bool false)).heap[Wb1.heap.size]? = some (.cells #[.slice (some ⟨g, 0, none⟩) 2 cap, .slice none 0 0, .int .i64 (-1), .bool false] 25 (0, 0)) ∧ Secs ((((Wb3.setCell ⟨Wb1.heap.size, 0, none⟩ (.slice (some ⟨g, 0, none⟩) 2 cap)).setCell ⟨Wb1.heap.size, 1, none⟩ (.slice none 0 0)).setCell ⟨Wb1.heap.size, 2, none⟩ (.int .i64 (-1))).setCell ⟨Wb1.heap.size, 3, none⟩ (.bool false)) (some ⟨b, 0, none⟩) b 0 2 L ∧ Secs ((((Wb3.setCell ⟨Wb1.heap.size, 0, none⟩ (.slice (some ⟨g, 0, none⟩) 2 cap)).setCell ⟨Wb1.heap.size, 1, none⟩ (.slice none 0 0)).setCell ⟨Wb1.heap.size, 2, none⟩ (.int .i64 (-1))).setCell ⟨Wb1.heap.size, 3, none⟩ (.bool false)) (some ⟨g, 0, none⟩) g 0 2 M from ⟨below_after Hb1.out.1 hq Hb1.out.1.size, blk_below Hb1.out.2.1 hq (blk_lt Hb1.out.2.1), cell4_set (u0 := .slice (some ⟨g, 0, none⟩) 2 cap) (u1 := .slice none 0 0) (u2 := .int .i64 (-1)) (u3 := .bool false) Hb3.out.2.2.2.2, Hb1.out.2.2.1.below hq (Nat.le_refl _), Hb1.out.2.2.2.below hq (Nat.le_refl _)⟩)
      clear hq hrr
      generalize ((((Wb3.setCell ⟨Wb1.heap.size, 0, none⟩ (.slice (some ⟨g, 0, none⟩) 2 cap)).setCell ⟨Wb1.heap.size, 1, none⟩ (.slice none 0 0)).setCell ⟨Wb1.heap.size, 2, none⟩ (.int .i64 (-1))).setCell ⟨Wb1.heap.size, 3, none⟩ (.bool false)) = WX at *
      have HR4 := Lib.hid (show runB ⟨M, [], -1, false⟩ = true from run_of (by omega) (by omega) (by simp) (by omega) (by omega) (fun i hi => by have : i = 0 ∨ i = 1 := (by omega); rcases this with rfl | rfl; rw [hM0, hY3l]; rw [hM1, hY1l]) (fun i hi => by simp at hi))
      have xx0 := blk_cell HX.out.2.2.1 0
      have xx1 := blk_cell HX.out.2.2.1 1
      have xx2 := blk_cell HX.out.2.2.1 2
      have xx3 := blk_cell HX.out.2.2.1 3
      go_wp2_with fail
      clear xx0 xx1 xx2 xx3
      refine (read_ok M [] (-1) (some ⟨g, 0, none⟩) g 0 2 cap none 0 0 0 0 1 _ HX.out.2.2.2.2 (pens_nil _ _) (by omega) (by omega) HR4.out (by omega) (by omega) Y1 hM1 128 hY1l).mono ?_
      rintro e Wb4 ⟨hp, hb⟩
      subst hp
      have Hb4 := Lib.hid (show _ ∧ _ ∧ _ ∧ _ ∧ _ from ⟨below_after HX.out.1 hb HX.out.1.size, blk_below HX.out.2.1 hb (blk_lt HX.out.2.1), blk_below HX.out.2.2.1 hb (blk_lt HX.out.2.2.1), HX.out.2.2.2.1.below hb (Nat.le_refl _), HX.out.2.2.2.2.below hb (Nat.le_refl _)⟩)
      clear hb
      have xx0 := blk_cell Hb4.out.2.2.1 0
      have xx1 := blk_cell Hb4.out.2.2.1 1
      have xx2 := blk_cell Hb4.out.2.2.1 2
      have xx3 := blk_cell Hb4.out.2.2.1 3
      go_wp2_with fail
      clear xx0 xx1 xx2 xx3
      refine (read_ok M [] (-1) (some ⟨g, 0, none⟩) g 0 2 cap none 0 0 0 0 0 _ Hb4.out.2.2.2.2 (pens_nil _ _) (by omega) (by omega) HR4.out (by omega) (by omega) Y3 hM0 128 hY3l).mono ?_
      rintro e Wb5 ⟨hp, hb⟩
      subst hp
      have Hb5 := Lib.hid (show _ ∧ _ ∧ _ ∧ _ ∧ _ from ⟨below_after Hb4.out.1 hb Hb4.out.1.size, blk_below Hb4.out.2.1 hb (blk_lt Hb4.out.2.1), blk_below Hb4.out.2.2.1 hb (blk_lt Hb4.out.2.2.1), Hb4.out.2.2.2.1.below hb (Nat.le_refl _), Hb4.out.2.2.2.2.below hb (Nat.le_refl _)⟩)
      clear hb
      have xv0 := blk_cell Hb5.out.2.1 0
      have xv1 := blk_cell Hb5.out.2.1 1
      have xv2 := blk_cell Hb5.out.2.1 2
      have xv3 := blk_cell Hb5.out.2.1 3
      go_wp2_with fail
      clear xv0 xv1 xv2 xv3
      refine (restart_any (some ⟨b, 0, none⟩) 2 2 qa 1 qc (-1) false _).mono ?_
      rintro e Wb6 ⟨hp, hb⟩
      subst hp
      have Hb6 := Lib.hid (show _ ∧ _ ∧ _ from ⟨below_after Hb5.out.1 hb Hb5.out.1.size, Hb5.out.2.2.2.1.below hb (Nat.le_refl _), Hb5.out.2.2.2.2.below hb (Nat.le_refl _)⟩)
      clear hb
      obtain ⟨L1, hL1⟩ : ∃ L1, nS L 1 = L1 := ⟨_, rfl⟩
      have hL1z : L1.2.2 = z128 := by rw [← hL1]; exact hz 1 (by omega)
      have hL1l : L1.2.2.length = 128 := by rw [hL1z, z128_len]
      have HL1 := Lib.hid hL1z
      clear hL1z
      go_wp2_with fail
      refine (read_ok L [] (-1) (some ⟨b, 0, none⟩) b 0 2 2 none 0 0 0 0 1 _ Hb6.out.2.1 (pens_nil _ _) (by omega) (by omega) HR1.out (by omega) (by omega) L1 hL1 128 hL1l).mono ?_
      rintro e Wb7 ⟨hp, hb⟩
      subst hp
      have Hb7 := Lib.hid (show _ ∧ _ ∧ _ from ⟨below_after Hb6.out.1 hb Hb6.out.1.size, Hb6.out.2.1.below hb (Nat.le_refl _), Hb6.out.2.2.below hb (Nat.le_refl _)⟩)
      clear hb
      have hr1 := Hb7.out.2.2.row 1 (by omega)
      have hr0 := Hb7.out.2.2.row 0 (by omega)
      have hrl := Hb7.out.2.1.row 1 (by omega)
      rw [hM1] at hr1
      rw [hM0] at hr0
      rw [hL1] at hrl
      obtain ⟨b1, o1, ha1, -, hc1⟩ := hr1.cells (by omega)
      obtain ⟨b3, o3, ha3, -, hc3⟩ := hr0.cells (by omega)
      obtain ⟨bl, ol, hal, -, hcl⟩ := hrl.cells (by omega)
      have k1 := hc1 0 (by omega)
      have k3 := hc3 0 (by omega)
      have k4 := hc3 64 (by omega)
      have kl := hcl 0 (by omega)
      rw [HY1.out] at k1
      rw [HY3.out.1] at k3 k4
      rw [HL1.out] at kl
      replace k1 : Wb7.cell? ⟨b1, o1, none⟩ = some (.int .u8 7) := k1
      replace k3 : Wb7.cell? ⟨b3, o3, none⟩ = some (.int .u8 8) := k3
      replace k4 : Wb7.cell? ⟨b3, o3 + 64, none⟩ = some (.int .u8 0) := k4
      replace kl : Wb7.cell? ⟨bl, ol, none⟩ = some (.int .u8 0) := kl
      clear hr1 hr0 hrl hc1 hc3 hcl hz hM0 hM1 hMl hY1l hY2l hY3l hL1 hL1l hLl hqc2 hcap
      clear r0 r1 r2 r3
      go_wp2_with fail
      refine (check_any [] [] 0 false none 0 0 0 0 none 0 0 0 0 _ ⟨rfl, fun h => by omega, fun h => by omega, fun i hi => by omega, fun i hi => by omega⟩ (pens_nil _ _) (by omega) (by omega)).mono ?_
      rintro e Wc1 ⟨rfl, hbA⟩
      rw [chkE_bad (fun h => by have := h.1.1; simp at this)]
      go_wp2_with fail
      refine (restart_any none 0 0 none 0 0 0 false _).mono ?_
      rintro e Wc2 ⟨rfl, hbB⟩
      have HFin := Lib.hid (below_after (below_after Hb7.out.1 hbA Hb7.out.1.size) hbB (by have := Hb7.out.1.size; have := hbA.size; omega))
      clear hbA hbB k1 k3 k4 kl
      have hfd : ∀ w : World, (Instr.field 25 (.agg #[.slice none 0 0, .slice none 0 0, .int .i64 (-1), .bool false]) 2).run Try.prog w = .ok (.int .i64 (-1)) w := fun _ => by kernel_rfl
      go_wp2
      go_ret
      exact ⟨rfl, HFin.out⟩
end Go.Proofs.Ytbimmahlcceadaa
