/- NetworkSpec (layer 6). -/
import Derived.Test.YthgbkdaimnejeaaNetOpen
namespace Go.Proofs.Ythgbkdaimnejeaa
open Go.ChangeShapes Go.WideShapes Go.ChangeAt Go.RowKit Go.Sort Go.Shelf

set_option maxRecDepth 100000 in
set_option maxHeartbeats 8000000 in
theorem spec_walk (x : Sl × Sl) (L : List Pk) (A : List Qt) (k : Kt) (m : Pk) (w : World) (h : NetV w x L A) (hm : PkV w k m) :
    Calls Try.prog 3 #[vN x, vK k] w fun e w' => e = .returned (.bool true) ∧ Below w.heap.size w w' := by
  obtain ⟨⟨a0, n0, c0⟩, ⟨b0, m0, d0⟩⟩ := x
  obtain ⟨k0, k1, ka, kn, kc⟩ := k
  dsimp only [vN, vK] at *
  have H0 := Lib.hid (show _ ∧ _ ∧ _ from ⟨Below.refl w.heap.size w, h, hm⟩)
  clear h hm
  go_enter Try.func3, Try.ntmps3
  go_upto_region 1 with fail
  have hb : Below w.heap.size w ((w.alloc (.cells #[.slice a0 n0 c0, .slice b0 m0 d0] 25)).alloc (.cells #[.int .i64 k0, .int .i64 k1, .slice ka kn kc] 28)) := by go_grown
  have hk1 : ((w.alloc (.cells #[.slice a0 n0 c0, .slice b0 m0 d0] 25)).alloc (.cells #[.int .i64 k0, .int .i64 k1, .slice ka kn kc] 28)).heap[w.heap.size]? = some (.cells #[.slice a0 n0 c0, .slice b0 m0 d0] 25 (0, 0)) := blk_alloc (blk_new _ _) _
  have hk2 : ((w.alloc (.cells #[.slice a0 n0 c0, .slice b0 m0 d0] 25)).alloc (.cells #[.int .i64 k0, .int .i64 k1, .slice ka kn kc] 28)).heap[w.heap.size + 1]? = some (.cells #[.int .i64 k0, .int .i64 k1, .slice ka kn kc] 28 (0, 0)) := by have := blk_new (w.alloc (.cells #[.slice a0 n0 c0, .slice b0 m0 d0] 25)) (.cells #[.int .i64 k0, .int .i64 k1, .slice ka kn kc] 28); rwa [World.size_alloc] at this
  have H1 := Lib.hid (show _ ∧ _ ∧ _ ∧ _ ∧ _ from ⟨below_after H0.out.1 hb H0.out.1.size, H0.out.2.1.grown hb, H0.out.2.2.grown hb, hk1, hk2⟩)
  clear H0
  clear hb hk1 hk2
  generalize hzW1 : ((w.alloc (.cells #[.slice a0 n0 c0, .slice b0 m0 d0] 25)).alloc (.cells #[.int .i64 k0, .int .i64 k1, .slice ka kn kc] 28)) = W1 at *
  clear hzW1
  go_wp2_with fail
  refine (sane_any W1).mono ?_
  rintro e W2 ⟨rfl, hb⟩
  have H2 := Lib.hid (show _ ∧ _ ∧ _ ∧ _ ∧ _ from ⟨below_after H1.out.1 hb H1.out.1.size, H1.out.2.1.grown hb, H1.out.2.2.1.grown hb, blk_below H1.out.2.2.2.1 hb (Array.getElem?_eq_some_iff.1 H1.out.2.2.2.1).1, blk_below H1.out.2.2.2.2 hb (Array.getElem?_eq_some_iff.1 H1.out.2.2.2.2).1⟩)
  clear H1
  clear hb
  have x00 := blk_cell H2.out.2.2.2.1 0
  have x01 := blk_cell H2.out.2.2.2.1 1
  simp at x00 x01
  go_wp2_with fail
  clear x00 x01
  refine (few_s ((a0, n0, c0), (b0, m0, d0)) L A W2 H2.out.2.1).mono ?_
  rintro e W3 ⟨rfl, hb⟩
  have H3 := Lib.hid (show _ ∧ _ ∧ _ ∧ _ ∧ _ from ⟨below_after H2.out.1 hb H2.out.1.size, H2.out.2.1.grown hb, H2.out.2.2.1.grown hb, blk_below H2.out.2.2.2.1 hb (Array.getElem?_eq_some_iff.1 H2.out.2.2.2.1).1, blk_below H2.out.2.2.2.2 hb (Array.getElem?_eq_some_iff.1 H2.out.2.2.2.2).1⟩)
  clear H2
  clear hb
  by_cases hfew : L.length ≤ 40 ∧ A.length ≤ 40
  case neg =>
    rw [decide_eq_false hfew]
    clear hfew
    go_wp2
    exact bodyPost_ret (v := .bool true) (by simp [results, Try.results3, go_sem]) rfl ⟨rfl, H3.out.1⟩
  rw [decide_eq_true hfew]
  clear hfew
  have x00 := blk_cell H3.out.2.2.2.1 0
  have x01 := blk_cell H3.out.2.2.2.1 1
  simp at x00 x01
  have x10 := blk_cell H3.out.2.2.2.2 0
  have x11 := blk_cell H3.out.2.2.2.2 1
  have x12 := blk_cell H3.out.2.2.2.2 2
  simp at x10 x11 x12
  go_wp2_with fail
  clear x00 x01 x10 x11 x12
  refine (send_s ((a0, n0, c0), (b0, m0, d0)) L A (k0, k1, ka, kn, kc) m W3 H3.out.2.1 H3.out.2.2.1).mono ?_
  rintro e W4 ⟨⟨⟨a1, n1, c1⟩, ⟨b1, m1, d1⟩⟩, rfl, hN, hb⟩
  have H4 := Lib.hid (show _ ∧ _ ∧ _ ∧ _ ∧ _ ∧ _ from ⟨below_after H3.out.1 hb H3.out.1.size, H3.out.2.1.grown hb, H3.out.2.2.1.grown hb, blk_below H3.out.2.2.2.1 hb (Array.getElem?_eq_some_iff.1 H3.out.2.2.2.1).1, blk_below H3.out.2.2.2.2 hb (Array.getElem?_eq_some_iff.1 H3.out.2.2.2.2).1, hN⟩)
  clear H3
  clear hb
  dsimp only [vN] at *
  clear hN
  go_upto_region 6 with fail
  have hb := ((Below.refl W4.heap.size W4).alloc (Nat.le_refl _) (.cells #[.slice a1 n1 c1, .slice b1 m1 d1] 25))
  have H5 := Lib.hid (show _ ∧ _ ∧ _ ∧ _ ∧ _ ∧ _ ∧ _ from ⟨below_after H4.out.1 hb H4.out.1.size, H4.out.2.1.grown hb, H4.out.2.2.1.grown hb, blk_below H4.out.2.2.2.1 hb (Array.getElem?_eq_some_iff.1 H4.out.2.2.2.1).1, blk_below H4.out.2.2.2.2.1 hb (Array.getElem?_eq_some_iff.1 H4.out.2.2.2.2.1).1, H4.out.2.2.2.2.2.grown hb, blk_new W4 (.cells #[.slice a1 n1 c1, .slice b1 m1 d1] 25)⟩)
  clear H4
  clear hb
  generalize hzW5 : W4.alloc (.cells #[.slice a1 n1 c1, .slice b1 m1 d1] 25) = W5 at *
  clear hzW5
  have x00 := blk_cell H5.out.2.2.2.1 0
  have x01 := blk_cell H5.out.2.2.2.1 1
  simp at x00 x01
  have x10 := blk_cell H5.out.2.2.2.2.1 0
  have x11 := blk_cell H5.out.2.2.2.2.1 1
  have x12 := blk_cell H5.out.2.2.2.2.1 2
  simp at x10 x11 x12
  go_wp2_with fail
  clear x00 x01 x10 x11 x12
  refine (rsend_s ((a0, n0, c0), (b0, m0, d0)) L A (k0, k1, ka, kn, kc) m W5 H5.out.2.1 H5.out.2.2.1).mono ?_
  rintro e W6 ⟨⟨⟨a2, n2, c2⟩, ⟨b2, m2, d2⟩⟩, rfl, hN, hb⟩
  have H6 := Lib.hid (show _ ∧ _ ∧ _ ∧ _ ∧ _ ∧ _ ∧ _ ∧ _ from ⟨below_after H5.out.1 hb H5.out.1.size, H5.out.2.1.grown hb, H5.out.2.2.1.grown hb, blk_below H5.out.2.2.2.1 hb (Array.getElem?_eq_some_iff.1 H5.out.2.2.2.1).1, blk_below H5.out.2.2.2.2.1 hb (Array.getElem?_eq_some_iff.1 H5.out.2.2.2.2.1).1, H5.out.2.2.2.2.2.1.grown hb, blk_below H5.out.2.2.2.2.2.2 hb (Array.getElem?_eq_some_iff.1 H5.out.2.2.2.2.2.2).1, hN⟩)
  clear H5
  clear hb
  dsimp only [vN] at *
  clear hN
  go_upto_region 7 with fail
  have hb := ((Below.refl W6.heap.size W6).alloc (Nat.le_refl _) (.cells #[.slice a2 n2 c2, .slice b2 m2 d2] 25))
  have H7 := Lib.hid (show _ ∧ _ ∧ _ ∧ _ ∧ _ ∧ _ ∧ _ ∧ _ ∧ _ from ⟨below_after H6.out.1 hb H6.out.1.size, H6.out.2.1.grown hb, H6.out.2.2.1.grown hb, blk_below H6.out.2.2.2.1 hb (Array.getElem?_eq_some_iff.1 H6.out.2.2.2.1).1, blk_below H6.out.2.2.2.2.1 hb (Array.getElem?_eq_some_iff.1 H6.out.2.2.2.2.1).1, H6.out.2.2.2.2.2.1.grown hb, blk_below H6.out.2.2.2.2.2.2.1 hb (Array.getElem?_eq_some_iff.1 H6.out.2.2.2.2.2.2.1).1, H6.out.2.2.2.2.2.2.2.grown hb, blk_new W6 (.cells #[.slice a2 n2 c2, .slice b2 m2 d2] 25)⟩)
  clear H6
  clear hb
  generalize hzW7 : W6.alloc (.cells #[.slice a2 n2 c2, .slice b2 m2 d2] 25) = W7 at *
  clear hzW7
  generalize sendS L A m = r at *
  obtain ⟨rc, rL, rA⟩ := r
  dsimp only at *
  generalize hch : chkS L A = ch at *
  have x0 := blk_cell H7.out.2.2.2.1 0
  have x1 := blk_cell H7.out.2.2.2.1 1
  simp at x0 x1
  have y0 := blk_cell H7.out.2.2.2.2.2.2.1 0
  have y1 := blk_cell H7.out.2.2.2.2.2.2.1 1
  simp at y0 y1
  have z0 := blk_cell H7.out.2.2.2.2.2.2.2.2 0
  have z1 := blk_cell H7.out.2.2.2.2.2.2.2.2 1
  simp at z0 z1
  replace x0 := cell_regrown x0
  replace x1 := cell_regrown x1
  replace y0 := cell_regrown y0
  replace y1 := cell_regrown y1
  replace z0 := cell_regrown z0
  replace z1 := cell_regrown z1
  have zr : (rc == rc) = true := by simp
  have zc : (ch == ch) = true := by simp
  have HC := Lib.hid hch
  clear hch
  refine wp_region_quiet_below (by kernel_rfl) (by kernel_rfl) ?_
  repeat (go_big_quiet_step (((first | (go_at_call 13; with_reducible exact Calls.regrown_of (HC.out ▸ check_s ((a0, n0, c0), (b0, m0, d0)) L A _ (H7.out.2.1.grown (below_regrown W7 _ _)))) | (go_at_call 14; with_reducible exact Calls.regrown_of (HC.out ▸ rcheck_s ((a0, n0, c0), (b0, m0, d0)) L A _ (H7.out.2.1.grown (below_regrown W7 _ _)))) | (go_at_call 15; with_reducible exact Calls.regrown_of (same_t ((a1, n1, c1), (b1, m1, d1)) ((a2, n2, c2), (b2, m2, d2)) rL rA _ (H7.out.2.2.2.2.2.1.grown (below_regrown W7 _ _)) (H7.out.2.2.2.2.2.2.2.1.grown (below_regrown W7 _ _)))) | (go_at_call 16; with_reducible exact Calls.regrown_of (new_any _)) | (go_at_call 17; with_reducible exact Calls.regrown_of (rnew_any _)) | (go_at_call 15; with_reducible exact Calls.regrown_of (same_t zN zN [] [] _ (NetV.zero _) (NetV.zero _)))))))
  refine wpQuiet_nil ?_
  intro WQ hq'
  have hq := of_regrown hq'
  clear hq'
  go_wp2
  exact bodyPost_ret (v := .bool true) (by simp [results, Try.results3, go_sem]) rfl ⟨rfl, below_after H7.out.1 hq H7.out.1.size⟩
end Go.Proofs.Ythgbkdaimnejeaa
