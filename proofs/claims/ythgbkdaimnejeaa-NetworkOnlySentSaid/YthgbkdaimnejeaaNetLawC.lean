/- NetworkOnlySent (layer 6). -/
import Derived.Test.YthgbkdaimnejeaaNetHapQ
import Derived.Test.YthgbkdaimnejeaaNetOnB
import Derived.Test.YthgbkdaimnejeaaNetOpMv
import Derived.Test.YthgbkdaimnejeaaDag2
import Derived.Deep.CutRange
import Derived.Deep.CutBlock
namespace Go.Proofs.Ythgbkdaimnejeaa
open Go.ChangeShapes Go.WideShapes Go.ChangeAt Go.RowKit Go.Sort Go.Shelf

set_option maxRecDepth 100000 in
set_option maxHeartbeats 8000000 in
theorem only_walk (sa : Option Addr) (sn sc sb so : Nat) (w : World) (hM : (0 < sn → sa = some ⟨sb, so, none⟩) ∧ ∀ i, i < sn → ∃ v0 v1 v2 v3 v4 : Nat, v0 ≤ 255 ∧ v1 ≤ 255 ∧ v2 ≤ 255 ∧ v3 ≤ 255 ∧ w.cell? ⟨sb, so + i * 5, none⟩ = some (.int .u8 v0) ∧ w.cell? ⟨sb, so + i * 5 + 1, none⟩ = some (.int .u8 v1) ∧ w.cell? ⟨sb, so + i * 5 + 2, none⟩ = some (.int .u8 v2) ∧ w.cell? ⟨sb, so + i * 5 + 3, none⟩ = some (.int .u8 v3) ∧ w.cell? ⟨sb, so + i * 5 + 4, none⟩ = some (.int .u8 v4)) :
    Calls Try.prog 5 #[.slice sa sn sc] w fun e w' => e = .returned (.bool true) ∧ Below w.heap.size w w' := by
  have H0 := Lib.hid (Below.refl w.heap.size w)
  have HA := Lib.hid hM
  clear hM
  go_enter Try.func5, Try.ntmps5
  go_upto_region 1 with fail
  go_wp2_with fail
  refine (sane_any w).mono ?_
  rintro e W1 ⟨rfl, hb⟩
  have H1 := Lib.hid (show _ from below_after H0.out hb H0.out.size)
  clear H0
  clear hb
  by_cases hs12 : 60 < sn
  · have z : decide (60 < (sn : Int)) = true := decide_eq_true (by omega)
    go_wp2
    exact bodyPost_ret (v := .bool true) (by simp [results, Try.results5, go_sem]) rfl ⟨rfl, H1.out⟩
  have z : decide (60 < (sn : Int)) = false := decide_eq_false (by omega)
  go_upto_region 5 with fail
  clear z
  go_wp2_with fail
  refine (new_any W1).mono ?_
  rintro e W2 ⟨rfl, hb⟩
  have H2 := Lib.hid (show _ from below_after H1.out hb H1.out.size)
  clear H1
  clear hb
  have HLOW := Lib.hid H2.out
  go_upto_region 6 with fail
  have hb := ((Below.refl W2.heap.size W2).alloc (Nat.le_refl _) (.cells #[.slice none 0 0, .slice none 0 0] 25))
  have H3 := Lib.hid (show _ ∧ _ from ⟨below_after H2.out hb H2.out.size, blk_new W2 (.cells #[.slice none 0 0, .slice none 0 0] 25)⟩)
  clear H2
  clear hb
  generalize hzW3 : W2.alloc (.cells #[.slice none 0 0, .slice none 0 0] 25) = W3 at *
  clear hzW3
  have hX := H3.out.2
  generalize hg5 : W2.heap.size = X at *
  have hwX : w.heap.size ≤ X := by rw [← hg5]; exact HLOW.out.size
  have HZ := Lib.hid (show _ ∧ _ from ⟨hX, H3.out.1⟩)
  clear hX hg5 HLOW H3
  go_wp2
  go_loopw [4, 5, 6] (fun s c i wr => ∃ (j cn : Nat) (S : List Kt) (DS : List ByteArray) (x : Sl × Sl) (L : List Pk) (A : List Qt) (PP : Nat → Prop), j ≤ sn ∧ i = .int .i64 j ∧ c = .int .i64 cn ∧ cn ≤ j ∧ S.length ≤ j ∧ OnR w X cn s S DS PP x L A wr ∧ NOk L A ∧ wr.heap[X]? = some (.cells #[.slice x.1.1 x.1.2.1 x.1.2.2, .slice x.2.1 x.2.2.1 x.2.2.2] 25 (0, 0))) (fun _ _ i _ => sn - (intOf i).toNat)
  case atStart => exact ⟨0, 0, [], [], ((none, 0, 0), (none, 0, 0)), [], [], fun _ => False, Nat.zero_le _, rfl, rfl, Nat.le_refl _, Nat.le_refl _, ⟨KsO.nil _ _, ⟨rfl, fun i hi => by simp at hi⟩, fun b h => (by cases h), fun b h => h.elim, fun k hk => (by cases hk), NetVP.zero _ _, fun p hp => (by cases hp), fun h => absurd rfl h, HZ.out.2⟩, ⟨by simp, fun m hm => (by cases hm), fun i hi => by simp at hi⟩, HZ.out.1⟩
  case round =>
    clear HZ
    obtain ⟨j, cn, S, DS, ⟨⟨a0, n0, c0⟩, ⟨b0, m0, d0⟩⟩, L, A, PP, hj, rfl, rfl, hcn, hSj, hOn, hN, hXb⟩ := hrel
    obtain ⟨hS, hDS, hPo, hPl, hAv, hNv, hin, hAc, hlo⟩ := hOn
    have hXl := (Array.getElem?_eq_some_iff.1 hXb).1
    dsimp only [vN] at *
    by_cases hjs : j < sn
    case neg =>
      have z1 : decide ((j : Int) < (sn : Int)) = false := decide_eq_false (by omega)
      have HZ := Lib.hid hlo
      clear hS hDS hAv hNv hN hin hAc hXb hlo
      go_wp2
      exact bodyPost_ret (v := .bool true) (by simp [results, Try.results5, go_sem]) rfl ⟨rfl, HZ.out⟩
    have z1 : decide ((j : Int) < (sn : Int)) = true := decide_eq_true (by omega)
    obtain rfl := HA.out.1 (show 0 < sn by omega)
    obtain ⟨v0, v1, v2, v3, v4, q0, q1, q2, q3, j0, j1, j2, j3, j4⟩ := HA.out.2 j hjs
    replace j0 := cell_bel hlo j0
    replace j1 := cell_bel hlo j1
    replace j2 := cell_bel hlo j2
    replace j3 := cell_bel hlo j3
    replace j4 := cell_bel hlo j4
    have y0 := blk_cell hXb 0; have y1 := blk_cell hXb 1
    simp at y0 y1
    have HM := Lib.hid j0
    have HB := Lib.hid (show _ ∧ _ ∧ _ ∧ _ ∧ _ ∧ _ ∧ _ ∧ _ ∧ _ from ⟨hS, hDS, hAv, hNv, hN, hin, hAc, hXb, hlo⟩)
    clear hS hDS hAv hNv hN hin hAc hXb hlo
    go_upto_region 11 with fail
    clear z1
    obtain ⟨c, L', A', m', hR, hC⟩ := happens_q L A v0 v1 v2 v3 v4 HB.out.2.2.2.2.1 q0 q1 q2 q3
    have HH := Lib.hid (show _ ∧ _ from ⟨hR, hC⟩)
    clear hR hC
    refine wp_region_dagmT 12 [Nd.lit 0 25 (.agg #[.slice a0 n0 c0, .slice b0 m0 d0]),
        Nd.lit 1 26 (.slice (some ⟨sb, so, none⟩) sn sc),
        Nd.lit 2 27 (.int .i64 j),
        Nd.lit 3 28 (.pointer (some ⟨sb, so + j * 5, none⟩)) [1, 2],
        Nd.lit 4 29 (.agg #[.int .u8 v0, .int .u8 v1, .int .u8 v2, .int .u8 v3, .int .u8 v4]) [3],
        ⟨5, 30, [0, 4], fun v w' => ∃ (y : Sl × Sl) (k : Kt), v = .tuple #[vN y, vK k, .int .i64 c] ∧ NetVP PP w' y L' A' ∧ PkVP PP w' k m', fun _ _ _ hb h => by
            obtain ⟨y, k, h1, h2, h3⟩ := h
            exact ⟨y, k, h1, h2.grown hb, h3.grown hb⟩, false⟩,
        ⟨6, 24, [5], fun v w' => ∃ (y : Sl × Sl) (k : Kt), v = .tuple #[vN y, vK k, .int .i64 c] ∧ NetVP PP w' y L' A' ∧ PkVP PP w' k m', fun _ _ _ hb h => by
            obtain ⟨y, k, h1, h2, h3⟩ := h
            exact ⟨y, k, h1, h2.grown hb, h3.grown hb⟩, false⟩,
        ⟨7, 31, [6], fun v w' => ∃ y : Sl × Sl, v = vN y ∧ NetVP PP w' y L' A', fun _ _ _ hb h => by
            obtain ⟨y, h1, h2⟩ := h
            exact ⟨y, h1, h2.grown hb⟩, false⟩,
        ⟨8, 32, [6], fun v w' => ∃ k : Kt, v = vK k ∧ PkVP PP w' k m', fun _ _ _ hb h => by
            obtain ⟨y, h1, h2⟩ := h
            exact ⟨y, h1, h2.grown hb⟩, true⟩,
        Nd.late 9 33 (.int .i64 c) [6],
        ⟨10, 7, [], fun v w' => ∃ g, v = .pointer (some ⟨g, 0, none⟩) ∧ w'.heap[g]? = some (.cells #[.slice none 0 0, .slice none 0 0] 25 (0, 0)) ∧ wr.heap.size ≤ g, fun _ _ _ hb h => by
            obtain ⟨g, h1, h2, h3⟩ := h
            exact ⟨g, h1, blk_below h2 hb (Array.getElem?_eq_some_iff.1 h2).1, h3⟩, false⟩,
        ⟨11, 8, [], fun v w' => ∃ g, v = .pointer (some ⟨g, 0, none⟩) ∧ w'.heap[g]? = some (.cells #[.int .i64 0, .int .i64 0, .slice none 0 0] 28 (0, 0)) ∧ wr.heap.size ≤ g, fun _ _ _ hb h => by
            obtain ⟨g, h1, h2, h3⟩ := h
            exact ⟨g, h1, blk_below h2 hb (Array.getElem?_eq_some_iff.1 h2).1, h3⟩, false⟩] (by kernel_rfl) (by kernel_rfl) (by rfl) (by kernel_rfl) (by kernel_rfl) (by kernel_rfl) (by rintro _ _ _ (_ | _) _ h <;> exact h) ?_ ?_
    · refine ⟨?_, ?_, ?_, ?_, ?_, ?_, ?_, ?_, ?_, ?_, ?_, ?_, trivial⟩
      · unfold ObM
        simp only [List.getElem?_toArray, List.getElem?_cons_zero]
        intro w' hC
        refine Or.inl ⟨rfl, fun K' Q' hK => ?_⟩
        have y0 := cell_bel hC y0
        have y1 := cell_bel hC y1
        go_simp
        exact hK _ _ (Below.refl _ _) rfl
      · unfold ObM
        simp only [List.getElem?_toArray, List.getElem?_cons_succ, List.getElem?_cons_zero]
        intro w' hC
        refine Or.inl ⟨rfl, fun K' Q' hK => ?_⟩
        go_simp
        exact hK _ _ (Below.refl _ _) rfl
      · unfold ObM
        simp only [List.getElem?_toArray, List.getElem?_cons_succ, List.getElem?_cons_zero]
        intro w' hC
        refine Or.inl ⟨rfl, fun K' Q' hK => ?_⟩
        go_simp
        exact hK _ _ (Below.refl _ _) rfl
      · unfold ObM
        simp only [List.getElem?_toArray, List.getElem?_cons_succ, List.getElem?_cons_zero]
        intro w' hC
        rintro _ rfl
        rintro _ rfl
        refine Or.inl ⟨rfl, fun K' Q' hK => ?_⟩
        go_simp
        exact hK _ _ (Below.refl _ _) rfl
      · unfold ObM
        simp only [List.getElem?_toArray, List.getElem?_cons_succ, List.getElem?_cons_zero]
        intro w' hC
        rintro _ rfl
        refine Or.inl ⟨rfl, fun K' Q' hK => ?_⟩
        have y0 := cell_bel hC j0
        have y1 := cell_bel hC j1
        have y2 := cell_bel hC j2
        have y3 := cell_bel hC j3
        have y4 := cell_bel hC j4
        go_simp
        exact hK _ _ (Below.refl _ _) rfl
      · unfold ObM
        simp only [List.getElem?_toArray, List.getElem?_cons_succ, List.getElem?_cons_zero]
        intro w' hC
        rintro _ rfl
        rintro _ rfl
        refine Or.inl ⟨rfl, fun K' Q' hK => ?_⟩
        go_simp
        refine (HH.out.2 PP ((a0, n0, c0), (b0, m0, d0)) w' (HB.out.2.2.2.1.grown hC) (fun b h => Nat.lt_of_lt_of_le (hPl b h) hC.size)).mono ?_
        rintro e w2 ⟨y, k, rfl, h1, h2, hb⟩
        exact hK _ _ hb ⟨y, k, rfl, h1, h2⟩
      · unfold ObM
        simp only [List.getElem?_toArray, List.getElem?_cons_succ, List.getElem?_cons_zero]
        intro w' hC
        rintro _ ⟨y, k, rfl, h1, h2⟩
        refine Or.inl ⟨rfl, fun K' Q' hK => ?_⟩
        go_simp
        exact hK _ _ (Below.refl _ _) ⟨y, k, rfl, h1, h2⟩
      · unfold ObM
        simp only [List.getElem?_toArray, List.getElem?_cons_succ, List.getElem?_cons_zero]
        intro w' hC
        rintro _ ⟨y, k, rfl, h1, h2⟩
        refine Or.inl ⟨rfl, fun K' Q' hK => ?_⟩
        go_simp
        exact hK _ _ (Below.refl _ _) ⟨y, rfl, h1⟩
      · unfold ObM
        simp only [List.getElem?_toArray, List.getElem?_cons_succ, List.getElem?_cons_zero]
        intro w' hC
        rintro _ ⟨y, k, rfl, h1, h2⟩
        refine ⟨by first | rfl | trivial, vK k, ⟨k, rfl, h2⟩, fun w9 => ?_⟩
        go_simp
      · unfold ObM
        simp only [List.getElem?_toArray, List.getElem?_cons_succ, List.getElem?_cons_zero]
        intro w' hC
        rintro _ ⟨y, k, rfl, h1, h2⟩
        refine ⟨by first | rfl | trivial, _, rfl, fun w9 => ?_⟩
        go_simp
      · unfold ObM
        simp only [List.getElem?_toArray, List.getElem?_cons_succ, List.getElem?_cons_zero]
        intro w' hC
        refine Or.inl ⟨rfl, fun K' Q' hK => ?_⟩
        go_simp
        exact hK _ _ (by go_grown) ⟨_, rfl, blk_new _ _, hC.size⟩
      · unfold ObM
        simp only [List.getElem?_toArray, List.getElem?_cons_succ, List.getElem?_cons_zero]
        intro w' hC
        refine Or.inl ⟨rfl, fun K' Q' hK => ?_⟩
        go_simp
        exact hK _ _ (by go_grown) ⟨_, rfl, blk_new _ _, hC.size⟩
    · intro w' hC
      rintro _ rfl _ rfl _ rfl _ rfl _ rfl v5 - v6 - v7 ⟨⟨⟨a1, n1, c1⟩, ⟨b1, m1, d1⟩⟩, rfl, hN7⟩ v8 ⟨⟨k10, k11, ka1, kn1, kc1⟩, rfl, hK8⟩ _ rfl v10 ⟨g7, rfl, hg7, hs7⟩ v11 ⟨g8, rfl, hg8, hs8⟩
      unfold overN
      simp only [List.drop_succ_cons, List.drop_zero, Act.put, List.setIfInBounds_toArray, List.set_cons_succ, List.set_cons_zero]
      have hne : g8 ≠ g7 := fun e => by
        subst e
        rw [hg7] at hg8
        simp at hg8
      have e0 := blk_cell hg7 0; have e1 := blk_cell hg7 1; have f0 := blk_free hg7 0; have f1 := blk_free hg7 1
      have k0 := blk_cell hg8 0; have k1 := blk_cell hg8 1; have k2 := blk_cell hg8 2; have l0 := blk_free hg8 0; have l1 := blk_free hg8 1; have l2 := blk_free hg8 2
      simp at e0 e1 k0 k1 k2
      clear y0 y1 j0 j1 j2 j3 j4
      go_upto_region 12 with fail
      clear e0 e1 f0 f1 k0 k1 k2 l0 l1 l2
      have hok : NOk L' A' ∨ (L' = [] ∧ A' = []) := HH.out.1.elim (fun h => .inr h.2) (fun h => .inl h.2.1)
      have h8 := boxQ_far (b := g7) (u0 := .slice a1 n1 c1) (u1 := .slice b1 m1 d1) (q := g8) (by omega) hg8
      obtain ⟨Wd, hWd, d1', d2, d3, d4, d5, d6⟩ := pk_setP (P := fun b => PP b ∨ b = g8) (p := g8) (k0 := k10) (k1 := k11) (ka := ka1) (kn := kn1) (kc := kc1) (Or.inr rfl) h8
      obtain ⟨Wd2, hWd2, -, -, e3, -, -, -⟩ := pk_set (p := g8) (k0 := k10) (k1 := k11) (ka := ka1) (kn := kn1) (kc := kc1) h8
      obtain rfl : Wd = Wd2 := hWd.trans hWd2.symm
      rw [← hWd]
      clear hWd2
      clear hWd
      have hBw : Below wr.heap.size wr Wd := d5 _ _ hs8 (boxQ_below (b := g7) (u0 := .slice a1 n1 c1) (u1 := .slice b1 m1 d1) hs7 hC)
      have H1 := Lib.hid (show _ ∧ _ ∧ _ ∧ _ ∧ _ ∧ _ from ⟨hBw, (d4 _ (by omega)).trans (boxQ_set (u0 := .slice a1 n1 c1) (u1 := .slice b1 m1 d1) hg7), d1', (d2 _ _ _ ((hN7.box (a' := a1) (b' := n1) (c' := c1) (d' := b1) (e' := m1) (f' := d1) hg7).sep hok h8)).less (P' := PP) (fun b h => Or.inl h), e3 _ _ (hK8.1.box (a' := a1) (b' := n1) (c' := c1) (d' := b1) (e' := m1) (f' := d1) hg7), hK8.2⟩)
      clear hBw d1' d2 d3 d4 d5 d6 e3 h8 hN7 hK8 hg7 hg8 hC hok
      have hX8 : X < g8 := by omega
      have hX7 : X < g7 := by omega
      have HO := Lib.hid (show _ ∧ _ ∧ _ ∧ _ ∧ _ from ⟨OnR.grown ⟨HB.out.1, HB.out.2.1, hPo, hPl, HB.out.2.2.1, HB.out.2.2.2.1, HB.out.2.2.2.2.2.1, HB.out.2.2.2.2.2.2.1, HB.out.2.2.2.2.2.2.2.2⟩ H1.out.1, blk_below HB.out.2.2.2.2.2.2.2.1 H1.out.1 hXl, H1.out.2.1, H1.out.2.2.2.1, cell_bel H1.out.1 HM.out⟩)
      have HNN := Lib.hid HB.out.2.2.2.2.1
      have HKK := Lib.hid H1.out.2.2.1
      have HKV := Lib.hid H1.out.2.2.2.2.1
      have HQ := Lib.hid HH.out.1
      have HP7 := Lib.hid (show ∀ b, u4.ownBlock = some b → b < wr.heap.size from fun b h => hPl b (hPo b h))
      clear HH HM HB hPo hPl H1
      by_cases hc0 : c = 0
      case neg =>
        have zc : (c != 0) = true := bne_iff_ne.2 hc0
        have zf : ((0 : Int) != 0) = false := by simp
        have HE := Lib.hid (show _ ∧ _ ∧ _ ∧ NetV Wd ((a1, n1, c1), (b1, m1, d1)) [] [] from ⟨HO.out.2.1, HO.out.2.2.1, HO.out.1, by
          obtain ⟨hL0, hA0⟩ : L' = [] ∧ A' = [] := HQ.out.elim (fun h => h.2) (fun h => absurd h.1 hc0)
          have := HO.out.2.2.2.1.v
          rwa [hL0, hA0] at this⟩)
        clear HO HKK HKV HQ hc0
        have x00 := blk_cell HE.out.1 0
        have x01 := blk_cell HE.out.1 1
        simp at x00 x01
        go_wp2_with fail
        clear x00 x01
        refine (chk0 ((a0, n0, c0), (b0, m0, d0)) L A Wd HE.out.2.2.1.nv.v HNN.out).mono ?_
        rintro e We1 ⟨rfl, hb⟩
        have He1 := Lib.hid (show _ ∧ _ ∧ _ ∧ _ from ⟨blk_below HE.out.1 hb (Array.getElem?_eq_some_iff.1 HE.out.1).1, blk_below HE.out.2.1 hb (Array.getElem?_eq_some_iff.1 HE.out.2.1).1, HE.out.2.2.1.grown hb, HE.out.2.2.2.grown hb⟩)
        clear HE
        clear hb
        have x00 := blk_cell He1.out.2.1 0
        have x01 := blk_cell He1.out.2.1 1
        simp at x00 x01
        go_wp2_with fail
        clear x00 x01
        refine (same_t ((a1, n1, c1), (b1, m1, d1)) zN [] [] We1 He1.out.2.2.2 (NetV.zero _)).mono ?_
        rintro e We2 ⟨rfl, hb⟩
        have He2 := Lib.hid (show _ ∧ _ ∧ _ ∧ _ from ⟨blk_below He1.out.1 hb (Array.getElem?_eq_some_iff.1 He1.out.1).1, blk_below He1.out.2.1 hb (Array.getElem?_eq_some_iff.1 He1.out.2.1).1, He1.out.2.2.1.grown hb, He1.out.2.2.2.grown hb⟩)
        clear He1
        clear hb
        go_wp2
        go_roundw
        case rel => exact ⟨j + 1, cn, S, DS, ((a0, n0, c0), (b0, m0, d0)), L, A, PP, by omega, by go_num, rfl, by omega, by omega, He2.out.2.2.1, HNN.out, He2.out.1⟩
        case measure => simp [intOf] <;> omega
      subst hc0
      have zc : ((0 : Int) != 0) = false := by simp
      have HR := Lib.hid (HQ.out.resolve_left fun h => h.1 rfl).2
      clear HQ
      have j0 := HO.out.2.2.2.2
      go_upto_block 2 with fail
      clear zc j0
      go_cut [4, 5, 10, 11] from 50 to 97 (fun s c m k wx => ∃ (cn' : Nat) (S' : List Kt) (DS' : List ByteArray) (PP' : Nat → Prop), c = .int .i64 cn' ∧ cn' ≤ j + 1 ∧ S'.length ≤ j + 1 ∧ OnR w X cn' s S' DS' PP' ((a1, n1, c1), (b1, m1, d1)) L' A' wx ∧ wx.heap[X]? = some (.cells #[.slice a0 n0 c0, .slice b0 m0 d0] 25 (0, 0)) ∧ wx.heap[g7]? = some (.cells #[.slice a1 n1 c1, .slice b1 m1 d1] 25 (0, 0)))
      case first =>
        rcases (show v0 % 6 = 0 ∨ v0 % 6 = 1 ∨ v0 % 6 = 2 ∨ v0 % 6 = 3 ∨ v0 % 6 = 4 ∨ v0 % 6 = 5 by omega) with h6 | h6 | h6 | h6 | h6 | h6
        · have hkv : ((v0 : Int) % 6) = 0 := by omega
          rw [hkv]
          clear hkv
          obtain ⟨p, rfl⟩ := HR.out.2.1 h6
          have hac : A' ≠ [] → 0 < cn := fun h => HO.out.1.ac (HR.out.2.2.2.1 (by omega) h)
          obtain ⟨J, b, off, k0, k1, ka, kn, kc, D, hJL, rfl, hn1, hD, hAk, hpk, j0, j1, j2⟩ := netVP_last HO.out.2.2.2.1
          have hJ4 : J ≤ 4096 := by have := HR.out.1.1; rw [List.length_append] at this; omega
          have hXW : X < Wd.heap.size := (Array.getElem?_eq_some_iff.1 HO.out.2.1).1
          have h7W : g7 < Wd.heap.size := (Array.getElem?_eq_some_iff.1 HO.out.2.2.1).1
          have z1 : ((n1 : Int) == 0) = false := by simp; omega
          have hw : IntKind.i64.wrap ((n1 : Int) - 1) = (J : Int) := by rw [IntKind.wrap_i64]; omega
          have hJn : J < n1 := by omega
          have e0 := blk_cell HO.out.2.2.1 0; have e1 := blk_cell HO.out.2.2.1 1
          simp at e0 e1
          have HF := Lib.hid (show _ ∧ _ ∧ _ ∧ _ ∧ _ from ⟨hac, hD, hAk, hpk, hn1⟩)
          clear hac hD hAk hpk hn1 hJL
          go_wp2_with (at_builtin; go_loud (refine wpList_append_Kf rfl (.tmp 57) (.tmp 66) rfl (X + 1) _ S (by rfl) (HO.out.1.ks.alloc _) Wd.heap.size (k0, k1, ka, kn, kc) (by rfl) 28 (0, 0) (blk_new _ _) (by omega) (by simp; omega) ?_; intro g' cap' w2 hO2 hs2 hg2; have HPP := Lib.hid (show _ ∧ _ ∧ _ from ⟨hO2, hs2, hg2⟩); clear hO2 hs2 hg2))
          go_meet
          case rel =>
            obtain ⟨⟨P', hR'⟩, hbl⟩ := OnR.app HO.out.1.ks HO.out.1.ds HO.out.1.own HO.out.1.lt HO.out.1.av HO.out.2.2.2.1 HO.out.1.inn HF.out.1 HO.out.1.low hwX HF.out.2.1 HF.out.2.2.1 HF.out.2.2.2.1 rfl HPP.out.1 HPP.out.2.1 HPP.out.2.2
            have hsX : some X ≠ u4.ownBlock := fun e => by
              rcases HO.out.1.ks.ownE with h | ⟨q, h, h1, h2⟩
              · cases e.trans h
              · cases e.trans h
                omega
            have hs7' : some g7 ≠ u4.ownBlock := fun e => by have := HP7.out g7 e.symm; omega
            exact ⟨cn, _, _, P', rfl, by omega, by rw [List.length_append]; simp; omega, hR', (hbl X hXW hsX).trans HO.out.2.1, (hbl g7 h7W hs7').trans HO.out.2.2.1⟩
        · have hkv : ((v0 : Int) % 6) = 1 := by omega
          rw [hkv]
          clear hkv
          have HK := Lib.hid (show OnR w X cn u4 S DS PP ((a1, n1, c1), (b1, m1, d1)) L' A' Wd ∧ _ ∧ _ from ⟨⟨HO.out.1.ks, HO.out.1.ds, HO.out.1.own, HO.out.1.lt, HO.out.1.av, HO.out.2.2.2.1, fun q hq => HO.out.1.inn q (HR.out.2.2.1 (by omega) q hq), fun h => HO.out.1.ac (HR.out.2.2.2.1 (by omega) h), HO.out.1.low⟩, HO.out.2.1, HO.out.2.2.1⟩)
          have HM := Lib.hid (show (m' = zP ∧ 0 < cn) ∨ ∃ i, i < S.length ∧ pk (nthK S i) (nthD DS i) = m' from (HR.out.2.2.2.2 h6).elim (fun h => .inl ⟨h.1, HO.out.1.ac h.2⟩) fun h => .inr (mem_pkL HO.out.1.ds.len (HO.out.1.inn _ h)))
          clear HO HR HP7
          obtain ⟨va, vb, vc, rfl, hV⟩ := HK.out.1.ks.s
          clear hV
          go_upto_region 21 with fail
          go_cut [10] from 70 to 76 (fun m wx => ∃ b : Bool, m = .bool b ∧ ((m' = zP ∧ 0 < cn) → b = true) ∧ Below Wd.heap.size Wd wx)
          case first =>
            have g0 := blk_cell HKK.out 0; have g1 := blk_cell HKK.out 1; have g2 := blk_cell HKK.out 2
            simp at g0 g1 g2
            by_cases hz : m' = zP
            · by_cases hc : 0 < cn
              · have z1 : decide ((cn : Int) > 0) = true := decide_eq_true (by omega)
                go_wp2_with fail
                refine (samePk_b k10 k11 ka1 kn1 kc1 0 0 none 0 0 m' zP true (decide_eq_true hz) Wd HKV.out (PkV.zero _)).mono ?_
                rintro e W1 ⟨rfl, hb⟩
                go_wp2
                go_meet
                case rel => exact ⟨_, rfl, fun _ => rfl, hb⟩
              · have z1 : decide ((cn : Int) > 0) = false := decide_eq_false (by omega)
                go_wp2_with fail
                refine (samePk_b k10 k11 ka1 kn1 kc1 0 0 none 0 0 m' zP true (decide_eq_true hz) Wd HKV.out (PkV.zero _)).mono ?_
                rintro e W1 ⟨rfl, hb⟩
                go_wp2
                go_meet
                case rel => exact ⟨_, rfl, fun h => absurd h.2 hc, hb⟩
            · skip
              go_wp2_with fail
              refine (samePk_b k10 k11 ka1 kn1 kc1 0 0 none 0 0 m' zP false (decide_eq_false hz) Wd HKV.out (PkV.zero _)).mono ?_
              rintro e W1 ⟨rfl, hb⟩
              go_wp2
              go_meet
              case rel => exact ⟨_, rfl, fun h => absurd h.1 hz, hb⟩
          obtain ⟨bm, rfl, hbm, hwb⟩ := hcut
          generalize wr = wo at *
          go_wp2
          go_loopw [10, 11] (fun m k wr2 => ∃ (b : Bool) (q : Nat), m = .bool b ∧ k = .int .i64 q ∧ q ≤ S.length ∧ (b = true ∨ ∃ i, q ≤ i ∧ i < S.length ∧ pk (nthK S i) (nthD DS i) = m') ∧ OnR w X cn (.slice va S.length vc) S DS PP ((a1, n1, c1), (b1, m1, d1)) L' A' wr2 ∧ wr2.heap[X]? = some (.cells #[.slice a0 n0 c0, .slice b0 m0 d0] 25 (0, 0)) ∧ wr2.heap[g7]? = some (.cells #[.slice a1 n1 c1, .slice b1 m1 d1] 25 (0, 0)) ∧ wr2.heap[g8]? = some (.cells #[.int .i64 k10, .int .i64 k11, .slice ka1 kn1 kc1] 28 (0, 0)) ∧ PkV wr2 (k10, k11, ka1, kn1, kc1) m') (fun _ k _ => S.length - (intOf k).toNat)
          case atStart => exact ⟨bm, 0, rfl, rfl, Nat.zero_le _, HM.out.elim (fun h => .inl (hbm h)) (fun ⟨i, h1, h2⟩ => .inr ⟨i, Nat.zero_le _, h1, h2⟩), HK.out.1.grown hwb, blk_below HK.out.2.1 hwb (Array.getElem?_eq_some_iff.1 HK.out.2.1).1, blk_below HK.out.2.2 hwb (Array.getElem?_eq_some_iff.1 HK.out.2.2).1, blk_below HKK.out hwb (Array.getElem?_eq_some_iff.1 HKK.out).1, HKV.out.grown hwb⟩
          case round =>
            clear hbm HM HK HKK HKV
            obtain ⟨b, q, rfl, rfl, hq, hbq, hO2, hX2, h72, h82, hk2⟩ := hrel
            have HI := Lib.hid (show _ ∧ _ ∧ _ ∧ _ ∧ _ ∧ _ from ⟨hbq, hO2, hX2, h72, h82, hk2⟩)
            clear hbq hO2 hX2 h72 h82 hk2
            by_cases hqs : q < S.length
            case neg =>
              have z1 : decide ((q : Int) < (S.length : Int)) = false := decide_eq_false (by omega)
              obtain rfl : b = true := HI.out.1.resolve_right fun ⟨i, h1, h2, _⟩ => by omega
              go_wp2
              go_meet
              case rel => exact ⟨cn, S, DS, PP, rfl, by omega, by omega, HI.out.2.1, HI.out.2.2.1, HI.out.2.2.2.1⟩
            have z1 : decide ((q : Int) < (S.length : Int)) = true := decide_eq_true (by omega)
            obtain ⟨va', vb, vc', ev, hKs, -, -, -, -⟩ := HI.out.2.1.ks.s
            cases ev
            obtain rfl := (hKs.2.1 (by omega)).1
            have hcc := hKs.2.2 q hqs
            clear hKs
            obtain ⟨y, hy⟩ : ∃ y, y = nthK S q := ⟨_, rfl⟩
            obtain ⟨y0, y1, ya, yn, yc⟩ := y
            rw [← hy] at hcc
            obtain ⟨j0, j1, j2⟩ := hcc
            simp only [Nat.zero_add] at j0 j1 j2
            have HPK := Lib.hid (show PkV wr (y0, y1, ya, yn, yc) (pk (nthK S q) (nthD DS q)) from ⟨nthD DS q, by rw [hy]; exact HI.out.2.1.ds.dat q hqs, by rw [hy]⟩)
            clear hy
            go_upto_region 25 with fail
            clear z1
            cases b
            case true =>
              refine wp_region_quiet_below (by kernel_rfl) (by kernel_rfl) ?_
              repeat (go_big_quiet_step ((fail)))
              refine wpQuiet_nil ?_
              intro Wq hb'
              have hb := of_regrown hb'
              clear hb'
              clear j0 j1 j2
              go_wp2
              go_roundw
              case rel => exact ⟨true, q + 1, rfl, by go_num, by omega, .inl rfl, HI.out.2.1.grown hb, blk_below HI.out.2.2.1 hb (Array.getElem?_eq_some_iff.1 HI.out.2.2.1).1, blk_below HI.out.2.2.2.1 hb (Array.getElem?_eq_some_iff.1 HI.out.2.2.2.1).1, blk_below HI.out.2.2.2.2.1 hb (Array.getElem?_eq_some_iff.1 HI.out.2.2.2.2.1).1, HI.out.2.2.2.2.2.grown hb⟩
              case measure => simp [intOf] <;> omega
            have g0 := blk_cell HI.out.2.2.2.2.1 0; have g1 := blk_cell HI.out.2.2.2.2.1 1; have g2 := blk_cell HI.out.2.2.2.2.1 2
            simp at g0 g1 g2
            replace g0 := cell_regrown g0
            replace g1 := cell_regrown g1
            replace g2 := cell_regrown g2
            replace j0 := cell_regrown j0
            replace j1 := cell_regrown j1
            replace j2 := cell_regrown j2
            by_cases he : pk (nthK S q) (nthD DS q) = m'
            · skip
              refine wp_region_quiet_below (by kernel_rfl) (by kernel_rfl) ?_
              repeat (go_big_quiet_step (((go_at_call 22; with_reducible exact Calls.regrown_of (samePk_b y0 y1 ya yn yc k10 k11 ka1 kn1 kc1 (pk (nthK S q) (nthD DS q)) m' true (decide_eq_true he) _ (HPK.out.grown (below_regrown wr _ _)) (HI.out.2.2.2.2.2.grown (below_regrown wr _ _)))))))
              refine wpQuiet_nil ?_
              intro Wq hb'
              have hb := of_regrown hb'
              clear hb'
              clear g0 g1 g2 j0 j1 j2
              go_wp2
              go_roundw
              case rel => exact ⟨true, q + 1, rfl, by go_num, by omega, .inl rfl, HI.out.2.1.grown hb, blk_below HI.out.2.2.1 hb (Array.getElem?_eq_some_iff.1 HI.out.2.2.1).1, blk_below HI.out.2.2.2.1 hb (Array.getElem?_eq_some_iff.1 HI.out.2.2.2.1).1, blk_below HI.out.2.2.2.2.1 hb (Array.getElem?_eq_some_iff.1 HI.out.2.2.2.2.1).1, HI.out.2.2.2.2.2.grown hb⟩
              case measure => simp [intOf] <;> omega
            · skip
              refine wp_region_quiet_below (by kernel_rfl) (by kernel_rfl) ?_
              repeat (go_big_quiet_step (((go_at_call 22; with_reducible exact Calls.regrown_of (samePk_b y0 y1 ya yn yc k10 k11 ka1 kn1 kc1 (pk (nthK S q) (nthD DS q)) m' false (decide_eq_false he) _ (HPK.out.grown (below_regrown wr _ _)) (HI.out.2.2.2.2.2.grown (below_regrown wr _ _)))))))
              refine wpQuiet_nil ?_
              intro Wq hb'
              have hb := of_regrown hb'
              clear hb'
              clear g0 g1 g2 j0 j1 j2
              go_wp2
              go_roundw
              case rel => exact ⟨false, q + 1, rfl, by go_num, by omega, .inr (by obtain ⟨i, h1, h2, h3⟩ := HI.out.1.resolve_left (by simp); exact ⟨i, by rcases Nat.lt_or_eq_of_le h1 with h | h; exact h; exact absurd (h ▸ h3) he, h2, h3⟩), HI.out.2.1.grown hb, blk_below HI.out.2.2.1 hb (Array.getElem?_eq_some_iff.1 HI.out.2.2.1).1, blk_below HI.out.2.2.2.1 hb (Array.getElem?_eq_some_iff.1 HI.out.2.2.2.1).1, blk_below HI.out.2.2.2.2.1 hb (Array.getElem?_eq_some_iff.1 HI.out.2.2.2.2.1).1, HI.out.2.2.2.2.2.grown hb⟩
              case measure => simp [intOf] <;> omega
        · have hkv : ((v0 : Int) % 6) = 2 := by omega
          rw [hkv]
          clear hkv
          have HK := Lib.hid (show OnR w X cn u4 S DS PP ((a1, n1, c1), (b1, m1, d1)) L' A' Wd ∧ _ ∧ _ from ⟨⟨HO.out.1.ks, HO.out.1.ds, HO.out.1.own, HO.out.1.lt, HO.out.1.av, HO.out.2.2.2.1, fun q hq => HO.out.1.inn q (HR.out.2.2.1 (by omega) q hq), fun h => HO.out.1.ac (HR.out.2.2.2.1 (by omega) h), HO.out.1.low⟩, HO.out.2.1, HO.out.2.2.1⟩)
          clear HO HR HP7
          go_wp2
          go_meet
          case rel => exact ⟨cn, S, DS, PP, rfl, by omega, by omega, HK.out.1, HK.out.2.1, HK.out.2.2⟩
        · have hkv : ((v0 : Int) % 6) = 3 := by omega
          rw [hkv]
          clear hkv
          have HK := Lib.hid (show OnR w X cn u4 S DS PP ((a1, n1, c1), (b1, m1, d1)) L' A' Wd ∧ _ ∧ _ from ⟨⟨HO.out.1.ks, HO.out.1.ds, HO.out.1.own, HO.out.1.lt, HO.out.1.av, HO.out.2.2.2.1, fun q hq => HO.out.1.inn q (HR.out.2.2.1 (by omega) q hq), fun h => HO.out.1.ac (HR.out.2.2.2.1 (by omega) h), HO.out.1.low⟩, HO.out.2.1, HO.out.2.2.1⟩)
          clear HO HR HP7
          go_wp2
          go_meet
          case rel => exact ⟨cn, S, DS, PP, rfl, by omega, by omega, HK.out.1, HK.out.2.1, HK.out.2.2⟩
        · have hkv : ((v0 : Int) % 6) = 4 := by omega
          rw [hkv]
          clear hkv
          have HK := Lib.hid (show OnR w X (cn + 1) u4 S DS PP ((a1, n1, c1), (b1, m1, d1)) L' A' Wd ∧ _ ∧ _ from ⟨⟨HO.out.1.ks, HO.out.1.ds, HO.out.1.own, HO.out.1.lt, HO.out.1.av, HO.out.2.2.2.1, fun q hq => HO.out.1.inn q (HR.out.2.2.1 (by omega) q hq), fun _ => Nat.succ_pos _, HO.out.1.low⟩, HO.out.2.1, HO.out.2.2.1⟩)
          clear HO HR HP7
          go_wp2
          go_meet
          case rel => exact ⟨(cn + 1), S, DS, PP, by go_num, by omega, by omega, HK.out.1, HK.out.2.1, HK.out.2.2⟩
        · have hkv : ((v0 : Int) % 6) = 5 := by omega
          rw [hkv]
          clear hkv
          have HK := Lib.hid (show OnR w X cn u4 S DS PP ((a1, n1, c1), (b1, m1, d1)) L' A' Wd ∧ _ ∧ _ from ⟨⟨HO.out.1.ks, HO.out.1.ds, HO.out.1.own, HO.out.1.lt, HO.out.1.av, HO.out.2.2.2.1, fun q hq => HO.out.1.inn q (HR.out.2.2.1 (by omega) q hq), fun h => HO.out.1.ac (HR.out.2.2.2.1 (by omega) h), HO.out.1.low⟩, HO.out.2.1, HO.out.2.2.1⟩)
          clear HO HR HP7
          go_wp2
          go_meet
          case rel => exact ⟨cn, S, DS, PP, rfl, by omega, by omega, HK.out.1, HK.out.2.1, HK.out.2.2⟩
      obtain ⟨cn2, S2, DS2, PP2, rfl, hc2, hS2, hO2, hX2, h72⟩ := hcut
      have e0 := blk_cell h72 0; have e1 := blk_cell h72 1
      have x0 := blk_cell hX2 0; have x1 := blk_cell hX2 1; have f0 := blk_free hX2 0; have f1 := blk_free hX2 1
      simp at e0 e1 x0 x1
      have zf : ((0 : Int) != 0) = false := by simp
      go_upto_region 31 with fail
      clear e0 e1 x0 x1 f0 f1
      have HZ := Lib.hid (show _ ∧ _ from ⟨hO2.box (a' := a1) (b' := n1) (c' := c1) (d' := b1) (e' := m1) (f' := d1) hX2 hwX, boxQ_set (u0 := .slice a1 n1 c1) (u1 := .slice b1 m1 d1) hX2⟩)
      clear hO2 hX2 h72 HO HKK HKV HP7
      generalize ((wc.setCell ⟨X, 0, none⟩ (.slice a1 n1 c1)).setCell ⟨X, 1, none⟩ (.slice b1 m1 d1)) = WZ at *
      have x00 := blk_cell HZ.out.2 0
      have x01 := blk_cell HZ.out.2 1
      simp at x00 x01
      go_wp2_with fail
      clear x00 x01
      refine (chk0 ((a1, n1, c1), (b1, m1, d1)) L' A' WZ HZ.out.1.nv.v HR.out.1).mono ?_
      rintro e Wz1 ⟨rfl, hb⟩
      have Hz1 := Lib.hid (show _ ∧ _ from ⟨HZ.out.1.grown hb, blk_below HZ.out.2 hb (Array.getElem?_eq_some_iff.1 HZ.out.2).1⟩)
      clear HZ
      clear hb
      go_wp2
      go_roundw
      case rel => exact ⟨j + 1, cn2, S2, DS2, ((a1, n1, c1), (b1, m1, d1)), L', A', PP2, by omega, by go_num, rfl, hc2, hS2, Hz1.out.1, HR.out.1, Hz1.out.2⟩
      case measure => simp [intOf] <;> omega
end Go.Proofs.Ythgbkdaimnejeaa
