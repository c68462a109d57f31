/- CalibrateSpec, CalibrateAtSpec (layer 42). -/
import Derived.Test.YtjedpemjifcciaaCalSane
namespace Go.Proofs.Ytjedpemjifcciaa
open Go.ChangeShapes Go.WideShapes Go.ChangeAt Go.RowKit Go.Sort Go.Shelf

theorem pos_uniq {l : List Rt} {k : K3} {i j : Nat} (h : Pos l k i) (h' : Pos l k j) : i = j := by
  rcases Nat.lt_trichotomy i j with g | g | g
  · exact absurd (h'.2.1 i g) (h.2.2 i (Nat.le_refl _) (by have := h'.1; omega))
  · exact g
  · exact absurd (h.2.1 j g) (h'.2.2 j (Nat.le_refl _) (by have := h.1; omega))
theorem add_uniq {l : List Rt} {r : Rt} {i j : Nat} (h : Recs l → Pos l (ky r) i) (h' : Recs l → Pos l (ky r) j) : addC l r i = addC l r j ∧ addL l r i = addL l r j := by
  by_cases hR : Recs l
  · rw [pos_uniq (h hR) (h' hR)]; exact ⟨rfl, rfl⟩
  · have e1 := addC_no (i := i) (r := r) hR
    have e2 := addC_no (i := j) (r := r) hR
    have hne : chkR l ≠ 0 := by
      rcases chkR_cases l with ⟨_, h2⟩ | ⟨_, _, h2⟩ | ⟨h2, _⟩
      · rw [h2]; decide
      · rw [h2]; decide
      · exact absurd h2 hR
    exact ⟨e1.trans e2.symm, by rw [addL_err (by rw [e1]; exact hne), addL_err (by rw [e2]; exact hne)]⟩
theorem addL_len (l : List Rt) (r : Rt) (i : Nat) : (addL l r i).length ≤ l.length + 1 := by
  unfold addL
  split
  · unfold insR; simp; omega
  · simp
set_option maxRecDepth 100000 in
set_option maxHeartbeats 8000000 in
theorem spec_walk (a : Option Addr) (n cap b off : Nat) (l : List Rt) (r : Rt) (w : World) (h : Rs w a n b off l) (hn : n ≤ 9223372036854775807) (hz : a = none → cap = 0) (hnc : n ≤ cap) (hcm : cap ≤ 9223372036854775807) :
    Calls Try.prog 3 #[.slice a n cap, vR r] w fun e w' => e = .returned (.bool true) ∧ Below w.heap.size w w' := by
  have HM := Lib.hid (show _ ∧ _ ∧ _ from ⟨h, hz, h.1⟩)
  clear h hz
  obtain ⟨r0, r1, r2, r3, r4⟩ := r
  dsimp only [vR]
  obtain ⟨W, hW⟩ : ∃ W, W = w.alloc (.cells #[.int .i64 r0, .int .i64 r1, .int .i64 r2, .int .i64 r3, .int .i64 r4] 24) := ⟨_, rfl⟩
  have hB : Below w.heap.size w W := by rw [hW]; go_grown
  have g1 : W.heap[w.heap.size]? = some (.cells #[.int .i64 r0, .int .i64 r1, .int .i64 r2, .int .i64 r3, .int .i64 r4] 24 (0, 0)) := by rw [hW]; exact blk_new _ _
  have H := Lib.hid (show _ ∧ _ from ⟨hB, g1⟩)
  clear hB g1
  go_enter Try.func3, Try.ntmps3
  go_upto_region 1 with fail
  rw [← hW]
  clear hW
  go_wp2_with fail
  refine (sane_any W).mono ?_
  rintro e W1 ⟨rfl, hb1⟩
  have H1 := Lib.hid (show _ ∧ _ from ⟨below_after H.out.1 hb1 H.out.1.size, blk_below H.out.2 hb1 (Array.getElem?_eq_some_iff.1 H.out.2).1⟩)
  clear hb1 H
  have d0 := blk_cell H1.out.2 0
  have d1 := blk_cell H1.out.2 1
  have d2 := blk_cell H1.out.2 2
  have d3 := blk_cell H1.out.2 3
  have d4 := blk_cell H1.out.2 4
  simp at d0 d1 d2 d3 d4
  by_cases h3 : 300 < n
  · have z : decide (300 < (n : Int)) = true := decide_eq_true (by omega)
    go_wp2
    exact bodyPost_ret (v := .bool true) (by simp [results, Try.results3, go_sem]) rfl ⟨rfl, H1.out.1⟩
  have z : decide (300 < (n : Int)) = false := decide_eq_false (by omega)
  go_wp2_with fail
  clear d0 d1 d2 d3 d4
  refine (add_any a n cap b off l (r0, r1, r2, r3, r4) W1 (HM.out.1.grown H1.out.1) hn HM.out.2.1).mono ?_
  rintro e W2 ⟨i, v, hp, rfl, hO, hb⟩
  have H2 := Lib.hid (show _ ∧ _ ∧ _ ∧ _ from ⟨below_after H1.out.1 hb H1.out.1.size, blk_below H1.out.2 hb (Array.getElem?_eq_some_iff.1 H1.out.2).1, hO.mono H1.out.1.size, hp⟩)
  clear hb hO hp H1
  have d0 := blk_cell H2.out.2.1 0
  have d1 := blk_cell H2.out.2.1 1
  have d2 := blk_cell H2.out.2.1 2
  have d3 := blk_cell H2.out.2.1 3
  have d4 := blk_cell H2.out.2.1 4
  simp at d0 d1 d2 d3 d4
  go_wp2_with fail
  clear d0 d1 d2 d3 d4
  refine (radd_any a n cap b off l (r0, r1, r2, r3, r4) W2 (HM.out.1.grown H2.out.1) hn HM.out.2.1 hnc hcm).mono ?_
  rintro e W3 ⟨j, v2, hp, rfl, hO, hb⟩
  have hu := add_uniq H2.out.2.2.2 hp
  have H3 := Lib.hid (show _ ∧ _ ∧ _ ∧ _ from ⟨below_after H2.out.1 hb H2.out.1.size, H2.out.2.2.1.below hb (Nat.le_refl _), hO, hu.2⟩)
  rw [← hu.1]
  clear hb hO hp H2 hu
  obtain ⟨xa, xb, xc, rfl, hX, -⟩ := H3.out.2.1.s
  obtain ⟨ya, yb, yc, rfl, hY, -⟩ := H3.out.2.2.1.s
  have hl1 := addL_len l (r0, r1, r2, r3, r4) i
  have hl2 := addL_len l (r0, r1, r2, r3, r4) j
  have hln := HM.out.2.2
  have HX := Lib.hid (show _ ∧ _ ∧ _ from ⟨hX, hY, H3.out.2.2.2⟩)
  have hx1 : (addL l (r0, r1, r2, r3, r4) i).length ≤ 9223372036854775807 := by omega
  have hx2 : (addL l (r0, r1, r2, r3, r4) j).length ≤ 9223372036854775807 := by omega
  clear hX hY hl1 hl2 hln
  generalize addC l (r0, r1, r2, r3, r4) i = c0 at *
  generalize (addL l (r0, r1, r2, r3, r4) i).length = m1 at *
  generalize (addL l (r0, r1, r2, r3, r4) j).length = m2 at *
  go_wp2_with fail
  refine (check_any a n cap b off l W3 (HM.out.1.grown H3.out.1) hn).mono ?_
  rintro e W4 ⟨rfl, hb⟩
  have H4 := Lib.hid (show _ ∧ _ ∧ _ from ⟨below_after H3.out.1 hb H3.out.1.size, HX.out.1.grown hb, HX.out.2.1.grown hb⟩)
  clear hb
  go_wp2_with fail
  refine (rcheck_any a n cap b off l W4 (HM.out.1.grown H4.out.1) hn).mono ?_
  rintro e W5 ⟨rfl, hb⟩
  have H5 := Lib.hid (show _ ∧ _ ∧ _ from ⟨below_after H4.out.1 hb H4.out.1.size, H4.out.2.1.grown hb, H4.out.2.2.grown hb⟩)
  clear hb
  generalize chkR l = ck at *
  have zk : (ck == ck) = true := beq_self_eq_true ck
  have zc : (c0 == c0) = true := beq_self_eq_true c0
  go_wp2_with fail
  refine (rsame_any xa m1 xc xb 0 _ ya m2 yc yb 0 _ W5 H5.out.2.1 H5.out.2.2 hx1 hx2).mono ?_
  rintro e W6 ⟨rfl, hb⟩
  rw [decide_eq_true HX.out.2.2]
  have H6 := Lib.hid (below_after H5.out.1 hb H5.out.1.size)
  clear hb
  go_wp2
  exact bodyPost_ret (v := .bool true) (by simp [results, Try.results3, go_sem]) rfl ⟨rfl, H6.out⟩
theorem chgL_len (l : List Rt) (bef aft : Int) : (chgL l bef aft).length ≤ 16 * 257 := by
  unfold chgL
  split
  · rename_i h
    have := chTo_len l bef aft 16
    have := h.1.1
    have : 16 * (l.length + 1) ≤ 16 * 257 := Nat.mul_le_mul_left _ (by omega)
    omega
  · simp
set_option maxRecDepth 100000 in
set_option maxHeartbeats 8000000 in
theorem atSpec_walk (a : Option Addr) (n cap b off : Nat) (l : List Rt) (d p bef aft : Int) (w : World) (h : Rs w a n b off l) (hn : n ≤ 9223372036854775807) :
    Calls Try.prog 4 #[.slice a n cap, .int .i64 d, .int .i64 p, .int .i64 bef, .int .i64 aft] w fun e w' => e = .returned (.bool true) ∧ Below w.heap.size w w' := by
  have HM := Lib.hid h
  clear h
  go_enter Try.func4, Try.ntmps4
  go_wp2_with fail
  refine (sane_any w).mono ?_
  rintro e W1 ⟨rfl, hb1⟩
  have H1 := Lib.hid hb1
  clear hb1
  by_cases h3 : 300 < n
  · have z : decide (300 < (n : Int)) = true := decide_eq_true (by omega)
    go_wp2
    exact bodyPost_ret (v := .bool true) (by simp [results, Try.results4, go_sem]) rfl ⟨rfl, H1.out⟩
  have z : decide (300 < (n : Int)) = false := decide_eq_false (by omega)
  go_wp2_with fail
  refine (at_any a n cap b off l d p bef W1 (HM.out.grown H1.out) hn).mono ?_
  rintro e W2 ⟨rfl, hb⟩
  have H2 := Lib.hid (below_after H1.out hb H1.out.size)
  clear hb H1
  go_wp2_with fail
  refine (rat_any a n cap b off l d p bef W2 (HM.out.grown H2.out) hn).mono ?_
  rintro e W3 ⟨rfl, hb⟩
  have H3 := Lib.hid (below_after H2.out hb H2.out.size)
  clear hb H2
  generalize atV l d p bef = av
  obtain ⟨u1, u2, u3, u4⟩ := av
  dsimp only [vA]
  go_wp2_with fail
  refine (changed_any a n cap b off l bef aft W3 (HM.out.grown H3.out) hn).mono ?_
  rintro e W4 ⟨v, rfl, hO, hb⟩
  have H4 := Lib.hid (show _ ∧ _ from ⟨below_after H3.out hb H3.out.size, hO.mono H3.out.size⟩)
  clear hb H3 hO
  go_wp2_with fail
  refine (rchanged_any a n cap b off l bef aft W4 (HM.out.grown H4.out.1) hn).mono ?_
  rintro e W5 ⟨v2, rfl, hO, hb⟩
  have H5 := Lib.hid (show _ ∧ _ ∧ _ from ⟨below_after H4.out.1 hb H4.out.1.size, H4.out.2.below hb (Nat.le_refl _), hO⟩)
  clear hb H4 hO
  obtain ⟨xa, xb, xc, rfl, hX, -⟩ := H5.out.2.1.s
  obtain ⟨ya, yb, yc, rfl, hY, -⟩ := H5.out.2.2.s
  have hl := chgL_len l bef aft
  have hx1 : (chgL l bef aft).length ≤ 9223372036854775807 := by omega
  have HX := Lib.hid (show _ ∧ _ from ⟨hX, hY⟩)
  clear hX hY hl
  generalize chgC l bef aft = ck
  generalize (chgL l bef aft).length = m1 at *
  have z1 : (u1 == u1) = true := beq_self_eq_true u1
  have z2 : (u2 == u2) = true := beq_self_eq_true u2
  have z3 : (u3 == u3) = true := beq_self_eq_true u3
  have z4 : (u4 == u4) = true := beq_self_eq_true u4
  have zk : (ck == ck) = true := beq_self_eq_true ck
  go_wp2_with fail
  refine (rspans_any xa m1 xc xb 0 _ ya m1 yc yb 0 _ W5 HX.out.1 HX.out.2 hx1 hx1).mono ?_
  rintro e W6 ⟨rfl, hb⟩
  rw [decide_eq_true rfl]
  have H6 := Lib.hid (below_after H5.out.1 hb H5.out.1.size)
  clear hb
  go_wp2
  exact bodyPost_ret (v := .bool true) (by simp [results, Try.results4, go_sem]) rfl ⟨rfl, H6.out⟩
end Go.Proofs.Ytjedpemjifcciaa
