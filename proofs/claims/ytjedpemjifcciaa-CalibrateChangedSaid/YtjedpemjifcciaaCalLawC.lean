/- CalibrateAdd (layer 42). -/
import Derived.Test.YtjedpemjifcciaaCalInP
namespace Go.Proofs.Ytjedpemjifcciaa
open Go.ChangeShapes Go.WideShapes Go.ChangeAt Go.RowKit Go.Sort Go.Shelf

theorem chk_ne {l : List Rt} (hR : ¬ Recs l) : chkR l ≠ 0 := by
  rcases chkR_cases l with ⟨_, h2⟩ | ⟨_, _, h2⟩ | ⟨h2, _⟩
  · rw [h2]; decide
  · rw [h2]; decide
  · exact absurd h2 hR
theorem lt_no {A B M L : Prop} (hs : A ↔ B ∨ (M ∧ L)) (hB : false = true ↔ B) (hn : M → L → False) : false = true ↔ A :=
  ⟨fun h => (by cases h), fun h => (hs.1 h).elim hB.2 fun g => (hn g.1 g.2).elim⟩
theorem lt_yes {A B M L : Prop} (hs : A ↔ B ∨ (M ∧ L)) (hM : M) (hL : L) : true = true ↔ A := ⟨fun _ => hs.2 (.inr ⟨hM, hL⟩), fun _ => rfl⟩
set_option maxRecDepth 100000 in
set_option maxHeartbeats 8000000 in
theorem addLaw_walk (a : Option Addr) (n cap b off : Nat) (l : List Rt) (r : Rt) (d p k : Int) (w : World) (h : Rs w a n b off l) (hn : n ≤ 9223372036854775807) (hz : a = none → cap = 0) :
    Calls Try.prog 7 #[.slice a n cap, vR r, .int .i64 d, .int .i64 p, .int .i64 k] w fun e w' => e = .returned (.bool true) ∧ Below w.heap.size w w' := by
  have HM := Lib.hid (show _ ∧ _ ∧ _ ∧ _ from ⟨h, hz, h.1, h.2.1⟩)
  clear h hz
  obtain ⟨r0, r1, r2, r3, r4⟩ := r
  dsimp only [vR]
  obtain ⟨W, hW⟩ : ∃ W, W = w.alloc (.cells #[.int .i64 r0, .int .i64 r1, .int .i64 r2, .int .i64 r3, .int .i64 r4] 24) := ⟨_, rfl⟩
  have hB : Below w.heap.size w W := by rw [hW]; go_grown
  have g1 : W.heap[w.heap.size]? = some (.cells #[.int .i64 r0, .int .i64 r1, .int .i64 r2, .int .i64 r3, .int .i64 r4] 24 (0, 0)) := by rw [hW]; exact blk_new _ _
  have H := Lib.hid (show _ ∧ _ from ⟨hB, g1⟩)
  clear hB g1
  go_enter Try.func7, Try.ntmps7
  go_upto_region 1 with fail
  rw [← hW]
  clear hW
  go_wp2_with fail
  refine (sane_any W).mono ?_
  rintro e W1 ⟨rfl, hb1⟩
  have H1 := Lib.hid (show _ ∧ _ from ⟨below_after H.out.1 hb1 H.out.1.size, blk_below H.out.2 hb1 (Array.getElem?_eq_some_iff.1 H.out.2).1⟩)
  clear hb1 H
  by_cases h3 : 300 < n
  · have z : decide (300 < (n : Int)) = true := decide_eq_true (by omega)
    go_wp2
    exact bodyPost_ret (v := .bool true) (by simp [results, Try.results7, go_sem]) rfl ⟨rfl, H1.out.1⟩
  have z : decide (300 < (n : Int)) = false := decide_eq_false (by omega)
  go_wp2_with fail
  refine (rcheck_any a n cap b off l W1 (HM.out.1.grown H1.out.1) hn).mono ?_
  rintro e W2 ⟨rfl, hb⟩
  have H2 := Lib.hid (show _ ∧ _ from ⟨below_after H1.out.1 hb H1.out.1.size, blk_below H1.out.2 hb (Array.getElem?_eq_some_iff.1 H1.out.2).1⟩)
  clear hb H1
  by_cases hR : Recs l
  case neg =>
    have hc : chkR l ≠ 0 := chk_ne hR
    generalize chkR l = c0 at *
    have zc : (c0 == 0) = false := by simpa using hc
    have zc' : (c0 != 0) = true := by simpa using hc
    have zc2 : decide (c0 = 0) = false := decide_eq_false hc
    clear hc hR
    go_wp2
    exact bodyPost_ret (v := .bool true) (by simp [results, Try.results7, go_sem]) rfl ⟨rfl, H2.out.1⟩
  have HR := Lib.hid hR
  rw [chkR_yes hR]
  clear hR
  have d0 := blk_cell H2.out.2 0
  have d1 := blk_cell H2.out.2 1
  have d2 := blk_cell H2.out.2 2
  have d3 := blk_cell H2.out.2 3
  have d4 := blk_cell H2.out.2 4
  simp at d0 d1 d2 d3 d4
  go_wp2_with fail
  clear d0 d1 d2 d3 d4
  refine (add_any a n cap b off l (r0, r1, r2, r3, r4) W2 (HM.out.1.grown H2.out.1) hn HM.out.2.1).mono ?_
  rintro e W3 ⟨i, v, hp, rfl, hO, hb⟩
  have H3 := Lib.hid (show _ ∧ _ ∧ _ from ⟨below_after H2.out.1 hb H2.out.1.size, blk_below H2.out.2 hb (Array.getElem?_eq_some_iff.1 H2.out.2).1, hp HR.out⟩)
  clear hb hp H2 z
  by_cases hc : addC l (r0, r1, r2, r3, r4) i = 0
  case neg =>
    rw [addL_err hc] at hO
    generalize addC l (r0, r1, r2, r3, r4) i = c0 at *
    obtain ⟨va, vb, vc, rfl, -⟩ := hO.s
    have zc : (c0 == 0) = false := by simpa using hc
    have zc' : (c0 != 0) = true := by simpa using hc
    have zc2 : decide (c0 = 0) = false := decide_eq_false hc
    clear hc hO
    go_wp2
    exact bodyPost_ret (v := .bool true) (by simp [results, Try.results7, go_sem]) rfl ⟨rfl, H3.out.1⟩
  rw [addL_ok hc] at hO
  obtain ⟨hk, ho, h256⟩ := addC_zero HR.out hc
  rw [hc]
  have HI := Lib.hid (show _ ∧ _ from ⟨ins_recs HR.out H3.out.2.2 hk ho h256, hk⟩)
  obtain ⟨xa, xb, xc, rfl, hX, -⟩ := hO.s
  have hln : (insR l (r0, r1, r2, r3, r4) i).length = n + 1 := by rw [insR_len _ _ _ H3.out.2.2.1, HM.out.2.2.1]
  rw [hln] at hX
  have hr2 : 1 ≤ r2 := by unfold okR at ho; exact ho.2.2.1.1
  have HX := Lib.hid (show _ ∧ _ from ⟨hX, hln⟩)
  rw [hln]
  clear hc hO hX hk ho h256 hln
  go_wp2_with fail
  refine (at_any a n cap b off l d p k W3 (HM.out.1.grown H3.out.1) hn).mono ?_
  rintro e W4 ⟨rfl, hb⟩
  have H4 := Lib.hid (show _ ∧ _ ∧ _ ∧ _ from ⟨below_after H3.out.1 hb H3.out.1.size, blk_below H3.out.2.1 hb (Array.getElem?_eq_some_iff.1 H3.out.2.1).1, H3.out.2.2, HX.out.1.grown hb⟩)
  clear hb H3
  by_cases ha : argOk d p k
  case neg =>
    rw [atV_bad HR.out ha]
    dsimp only [vA]
    go_wp2_with fail
    refine (at_any xa (n + 1) xc xb 0 (insR l (r0, r1, r2, r3, r4) i) d p k W4 H4.out.2.2.2 (by omega)).mono ?_
    rintro e W5 ⟨rfl, hb⟩
    have H5 := Lib.hid (below_after H4.out.1 hb H4.out.1.size)
    clear hb
    rw [atV_bad HI.out.1 ha]
    dsimp only [vA]
    clear ha
    go_wp2
    exact bodyPost_ret (v := .bool true) (by simp [results, Try.results7, go_sem]) rfl ⟨rfl, H5.out⟩
  rw [atV_yes HR.out ha]
  obtain ⟨y, hy⟩ : ∃ y, y = cnt l d p k l.length := ⟨_, rfl⟩
  rw [← hy]
  have HA := Lib.hid (show _ ∧ _ from ⟨hy, ha⟩)
  clear hy ha
  obtain ⟨y0, y1, y2⟩ := y
  dsimp only [vA]
  go_wp2_with fail
  refine (at_any xa (n + 1) xc xb 0 (insR l (r0, r1, r2, r3, r4) i) d p k W4 H4.out.2.2.2 (by omega)).mono ?_
  rintro e W5 ⟨rfl, hb⟩
  have H5 := Lib.hid (show _ ∧ _ ∧ _ ∧ _ from ⟨below_after H4.out.1 hb H4.out.1.size, blk_below H4.out.2.1 hb (Array.getElem?_eq_some_iff.1 H4.out.2.1).1, H4.out.2.2.1, H4.out.2.2.2.grown hb⟩)
  clear hb H4
  rw [atV_yes HI.out.1 HA.out.2]
  obtain ⟨x, hx⟩ : ∃ x, x = cnt (insR l (r0, r1, r2, r3, r4) i) d p k (insR l (r0, r1, r2, r3, r4) i).length := ⟨_, rfl⟩
  rw [← hx]
  by_cases hm : mat d p k (r0, r1, r2, r3, r4)
  case neg =>
    obtain ⟨rfl⟩ : x = (y0, y1, y2) := by rw [hx, cnt_add_no H5.out.2.2.1.1 hm, ← HA.out.1]
    clear hx
    dsimp only [vA]
    have z0 : (y0 == y0) = true := beq_self_eq_true y0
    have z1 : (y1 == y1) = true := beq_self_eq_true y1
    have z2 : (y2 == y2) = true := beq_self_eq_true y2
    have z0' : (y0 != y0) = false := by simp
    have z1' : (y1 != y1) = false := by simp
    have z2' : (y2 != y2) = false := by simp
    have HM' := Lib.hid (show ¬ (r0 = d ∧ r1 ≤ p ∧ r2 ≤ k) from hm)
    clear hm
    have d0 := blk_cell H5.out.2.1 0
    have d1 := blk_cell H5.out.2.1 1
    have d2 := blk_cell H5.out.2.1 2
    have d3 := blk_cell H5.out.2.1 3
    have d4 := blk_cell H5.out.2.1 4
    simp at d0 d1 d2 d3 d4
    by_cases q2 : k < r2
    case neg =>
      have z3 : decide (k < r2) = false := decide_eq_false q2
      have z6 : decide (r2 ≤ k) = true := decide_eq_true (by omega)
      by_cases q1 : p < r1
      · have z4 : decide (p < r1) = true := decide_eq_true q1
        clear q1 q2
        go_wp2
        exact bodyPost_ret (v := .bool true) (by simp [results, Try.results7, go_sem]) rfl ⟨rfl, H5.out.1⟩
      have z4 : decide (p < r1) = false := decide_eq_false q1
      have q0 : d ≠ r0 := fun e => HM'.out ⟨e.symm, by omega, by omega⟩
      have z5 : (d == r0) = false := by simpa using q0
      have z5' : (d != r0) = true := by simpa using q0
      clear q0 q1 q2
      go_wp2
      exact bodyPost_ret (v := .bool true) (by simp [results, Try.results7, go_sem]) rfl ⟨rfl, H5.out.1⟩
    have z3 : decide (k < r2) = true := decide_eq_true q2
    have z6 : decide (r2 ≤ k) = false := decide_eq_false (by omega)
    have hD := Lib.hid (show chTo (insR l (r0, r1, r2, r3, r4) i) 0 k 16 = chTo l 0 k 16 from chTo_same HI.out.1.2 HR.out.2 fun d' p' => by
      unfold Dif
      rw [cnt_add_no H5.out.2.2.1.1 (fun g => by have := g.2.2; dsimp only at this; omega), cnt_add_no H5.out.2.2.1.1 (fun g => by have := g.2.2; dsimp only at this; omega)])
    have hk := HA.out.2.2.2
    go_wp2_with fail
    clear d0 d1 d2 d3 d4
    refine (changed_any a n cap b off l 0 k W5 (HM.out.1.grown H5.out.1) hn).mono ?_
    rintro e W6 ⟨v1, rfl, hO, hb⟩
    have H6 := Lib.hid (show _ ∧ _ ∧ _ from ⟨below_after H5.out.1 hb H5.out.1.size, H5.out.2.2.2.grown hb, hO.mono H5.out.1.size⟩)
    rw [chgC_ok HR.out ⟨by omega, by omega⟩ hk]
    clear hb hO H5
    go_wp2_with fail
    refine (changed_any xa (n + 1) xc xb 0 (insR l (r0, r1, r2, r3, r4) i) 0 k W6 H6.out.2.1 (by omega)).mono ?_
    rintro e W7 ⟨v2, rfl, hO, hb⟩
    have hO1 := H6.out.2.2.below hb (Nat.le_refl _)
    rw [chgL_ok HI.out.1 ⟨by omega, by omega⟩ hk, hD.out] at hO
    rw [chgL_ok HR.out ⟨by omega, by omega⟩ hk] at hO1
    rw [chgC_ok HI.out.1 ⟨by omega, by omega⟩ hk]
    have H7 := Lib.hid (below_after H6.out.1 hb H6.out.1.size)
    obtain ⟨ua, ub, uc, rfl, hU, -⟩ := hO1.s
    obtain ⟨va, vb, vc, rfl, hV, -⟩ := hO.s
    have hl := chgL_len l 0 k
    rw [chgL_ok HR.out ⟨by omega, by omega⟩ hk] at hl
    have hx1 : (chTo l 0 k 16).length ≤ 9223372036854775807 := by omega
    have HU := Lib.hid (show _ ∧ _ from ⟨hU, hV⟩)
    clear hU hV hl hO hO1 hb hk H6
    generalize (chTo l 0 k 16).length = m1 at *
    go_wp2_with fail
    refine (rspans_any ua m1 uc ub 0 _ va m1 vc vb 0 _ W7 HU.out.1 HU.out.2 hx1 hx1).mono ?_
    rintro e W8 ⟨rfl, hb⟩
    rw [decide_eq_true rfl]
    have H8 := Lib.hid (below_after H7.out hb H7.out.size)
    clear hb
    go_wp2
    exact bodyPost_ret (v := .bool true) (by simp [results, Try.results7, go_sem]) rfl ⟨rfl, H8.out⟩
  have HJ := Lib.hid (show (LaterTo l (r0, r1, r2, r3, r4) d p k n ∧ x = (y0, y1, y2) ∧ y2 = true) ∨ (¬ LaterTo l (r0, r1, r2, r3, r4) d p k n ∧ x = (r3, r4, true)) from by
    have := cnt_add_yes HR.out H5.out.2.2.1 HI.out.2 hm
    rw [HM.out.2.2.1, ← hx] at this
    rw [HM.out.2.2.1] at HA
    rw [← HA.out.1] at this
    exact this)
  clear hx
  obtain ⟨x0, x1, x2⟩ := x
  dsimp only [vA]
  obtain ⟨m0, m1, m2⟩ : r0 = d ∧ r1 ≤ p ∧ r2 ≤ k := hm
  subst m0
  have z3 : decide (k < r2) = false := decide_eq_false (by omega)
  have z6 : decide (r2 ≤ k) = true := decide_eq_true (by omega)
  have z4 : decide (p < r1) = false := decide_eq_false (by omega)
  have z5 : (r0 == r0) = true := by simp
  have z5' : (r0 != r0) = false := by simp
  have d0 := blk_cell H5.out.2.1 0
  have d1 := blk_cell H5.out.2.1 1
  have d2 := blk_cell H5.out.2.1 2
  have d3 := blk_cell H5.out.2.1 3
  have d4 := blk_cell H5.out.2.1 4
  simp at d0 d1 d2 d3 d4
  go_upto_region 18 with fail
  clear d0 d1 d2 d3 d4
  go_wp2_with fail
  go_loopw [21, 105] (fun s j wr => ∃ (t : Nat) (sb : Bool), t ≤ n ∧ s = .bool sb ∧ j = .int .i64 t ∧ (sb = true ↔ LaterTo l (r0, r1, r2, r3, r4) r0 p k t) ∧ wr.heap[w.heap.size]? = some (.cells #[.int .i64 r0, .int .i64 r1, .int .i64 r2, .int .i64 r3, .int .i64 r4] 24 (0, 0)) ∧ Below w.heap.size w wr) (fun _ j _ => n - (intOf j).toNat)
  case atStart => exact ⟨0, _, Nat.zero_le _, rfl, rfl, ⟨fun h => (by cases h), fun ⟨j, h, _⟩ => (by omega)⟩, H5.out.2.1, H5.out.1⟩
  case round =>
    clear H5
    obtain ⟨t, sb, ht, rfl, rfl, hS, hbx, hb⟩ := hrel
    have g0 := blk_cell hbx 0; have g1 := blk_cell hbx 1; have g2 := blk_cell hbx 2; have g3 := blk_cell hbx 3; have g4 := blk_cell hbx 4
    simp at g0 g1 g2 g3 g4
    by_cases hlt : t < n
    case neg =>
      obtain rfl : t = n := by omega
      have HB := Lib.hid hb
      have HS := Lib.hid hS
      clear hb hbx hS
      rcases HJ.out with ⟨j1, j2, j3⟩ | ⟨j1, j2⟩
      · obtain rfl : sb = true := HS.out.2 j1
        cases j2
        subst j3
        have e00 : (y0 == y0) = true := by simp
        have e00' : (y0 != y0) = false := by simp
        have e11 : (y1 == y1) = true := by simp
        have e11' : (y1 != y1) = false := by simp
        clear j1
        go_wp2
        exact bodyPost_ret (v := .bool true) (by simp [results, Try.results7, go_sem]) rfl ⟨rfl, HB.out⟩
      · obtain rfl : sb = false := by
          cases e : sb
          · rfl
          · exact absurd (HS.out.1 e) j1
        cases j2
        have e00 : (r3 == r3) = true := by simp
        have e00' : (r3 != r3) = false := by simp
        have e11 : (r4 == r4) = true := by simp
        have e11' : (r4 != r4) = false := by simp
        clear j1
        go_wp2
        exact bodyPost_ret (v := .bool true) (by simp [results, Try.results7, go_sem]) rfl ⟨rfl, HB.out⟩
    obtain ⟨rfl, hbw⟩ := HM.out.2.2.2 (by omega)
    obtain ⟨c0, c1, c2, c3, c4⟩ := (HM.out.1.grown hb).2.2 t (by omega)
    have hs := LaterTo.succ (l := l) (r := (r0, r1, r2, r3, r4)) (d := r0) (p := p) (k := k) (n := t)
    generalize hx : nthR l t = x at *
    obtain ⟨v0, v1, v2, v3, v4⟩ := x
    dsimp only at c0 c1 c2 c3 c4
    have HX := Lib.hid (show _ ∧ _ from ⟨hs, hS⟩)
    clear hx hs hS
    have hltI : (t : Int) < n := by omega
    go_upto_region 21 with fail
    clear c0 c1 c2 c3 c4 g0 g1 g2 g3 g4
    have HB := Lib.hid (show (wr.alloc (.cells #[.int .i64 v0, .int .i64 v1, .int .i64 v2, .int .i64 v3, .int .i64 v4] 24)).heap[wr.heap.size]? = some (.cells #[.int .i64 v0, .int .i64 v1, .int .i64 v2, .int .i64 v3, .int .i64 v4] 24 (0, 0)) ∧ (wr.alloc (.cells #[.int .i64 v0, .int .i64 v1, .int .i64 v2, .int .i64 v3, .int .i64 v4] 24)).heap[w.heap.size]? = some (.cells #[.int .i64 r0, .int .i64 r1, .int .i64 r2, .int .i64 r3, .int .i64 r4] 24 (0, 0)) ∧ Below w.heap.size w (wr.alloc (.cells #[.int .i64 v0, .int .i64 v1, .int .i64 v2, .int .i64 v3, .int .i64 v4] 24)) from ⟨blk_new _ _, blk_alloc hbx _, hb.alloc hb.size _⟩)
    have hqr : w.heap.size ≠ wr.heap.size := by have := (Array.getElem?_eq_some_iff.1 hbx).1; omega
    clear hbx hb
    generalize wr.alloc (.cells #[.int .i64 v0, .int .i64 v1, .int .i64 v2, .int .i64 v3, .int .i64 v4] 24) = W6 at *
    generalize wr.heap.size = u at *
    have c0 := blk_cell HB.out.1 0; have c1 := blk_cell HB.out.1 1; have c2 := blk_cell HB.out.1 2; have c3 := blk_cell HB.out.1 3; have c4 := blk_cell HB.out.1 4
    have g0 := blk_cell HB.out.2.1 0; have g1 := blk_cell HB.out.2.1 1; have g2 := blk_cell HB.out.2.1 2; have g3 := blk_cell HB.out.2.1 3; have g4 := blk_cell HB.out.2.1 4
    simp at c0 c1 c2 c3 c4 g0 g1 g2 g3 g4
    cases sb
    case true =>
      have N := Lib.hid (show (true = true ↔ LaterTo l (r0, r1, r2, r3, r4) r0 p k (t + 1)) from ⟨fun _ => HX.out.1.2 (.inl (HX.out.2.1 rfl)), fun _ => rfl⟩)
      go_wp2
      go_roundw
      case rel => exact ⟨t + 1, _, by omega, rfl, by go_num, N.out, HB.out.2⟩
      case measure => simp [intOf] <;> omega
    by_cases q0 : v0 = r0
    case neg =>
      have y0 : (v0 == r0) = false := by simpa using q0
      have y0' : decide (v0 = r0) = false := decide_eq_false q0
      have N := Lib.hid (lt_no HX.out.1 HX.out.2 (fun ⟨h1, h2, h3⟩ h4 => by exact q0 h1))
      go_wp2
      go_roundw
      case rel => exact ⟨t + 1, _, by omega, rfl, by go_num, N.out, HB.out.2⟩
      case measure => simp [intOf] <;> omega
    have y0 : (v0 == r0) = true := by simp [q0]
    by_cases q1 : v2 ≤ k
    case neg =>
      have y1' : decide (v2 ≤ k) = false := decide_eq_false q1
      have N := Lib.hid (lt_no HX.out.1 HX.out.2 (fun ⟨h1, h2, h3⟩ h4 => by exact q1 h3))
      go_wp2
      go_roundw
      case rel => exact ⟨t + 1, _, by omega, rfl, by go_num, N.out, HB.out.2⟩
      case measure => simp [intOf] <;> omega
    have y1' : decide (v2 ≤ k) = true := decide_eq_true q1
    by_cases q2 : v1 ≤ p
    case neg =>
      have y2' : decide (v1 ≤ p) = false := decide_eq_false q2
      have N := Lib.hid (lt_no HX.out.1 HX.out.2 (fun ⟨h1, h2, h3⟩ h4 => by exact q2 h2))
      go_wp2
      go_roundw
      case rel => exact ⟨t + 1, _, by omega, rfl, by go_num, N.out, HB.out.2⟩
      case measure => simp [intOf] <;> omega
    have y2' : decide (v1 ≤ p) = true := decide_eq_true q2
    by_cases q3 : r1 < v1
    · have y3 : decide (r1 < v1) = true := decide_eq_true q3
      have N := Lib.hid (lt_yes HX.out.1 ⟨q0, (by dsimp only; omega), (by dsimp only; omega)⟩ (.inl q3))
      go_wp2
      go_roundw
      case rel => exact ⟨t + 1, _, by omega, rfl, by go_num, N.out, HB.out.2⟩
      case measure => simp [intOf] <;> omega
    have y3 : decide (r1 < v1) = false := decide_eq_false q3
    by_cases q4 : v1 = r1
    case neg =>
      have y4 : (v1 == r1) = false := by simpa using q4
      have y4' : decide (v1 = r1) = false := decide_eq_false q4
      have N := Lib.hid (lt_no HX.out.1 HX.out.2 (fun ⟨h1, h2, h3⟩ h4 => by unfold later at h4; dsimp only at h4; omega))
      go_wp2
      go_roundw
      case rel => exact ⟨t + 1, _, by omega, rfl, by go_num, N.out, HB.out.2⟩
      case measure => simp [intOf] <;> omega
    have y4 : (v1 == r1) = true := by simp [q4]
    by_cases q5 : r2 < v2
    · have y5 : decide (r2 < v2) = true := decide_eq_true q5
      have N := Lib.hid (lt_yes HX.out.1 ⟨q0, (by dsimp only; omega), (by dsimp only; omega)⟩ (.inr ⟨q4, q5⟩))
      go_wp2
      go_roundw
      case rel => exact ⟨t + 1, _, by omega, rfl, by go_num, N.out, HB.out.2⟩
      case measure => simp [intOf] <;> omega
    have y5 : decide (r2 < v2) = false := decide_eq_false q5
    have N := Lib.hid (lt_no HX.out.1 HX.out.2 (fun ⟨h1, h2, h3⟩ h4 => by unfold later at h4; dsimp only at h4; omega))
    go_wp2
    go_roundw
    case rel => exact ⟨t + 1, _, by omega, rfl, by go_num, N.out, HB.out.2⟩
    case measure => simp [intOf] <;> omega
end Go.Proofs.Ytjedpemjifcciaa
