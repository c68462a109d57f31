/- sane (layer 42). -/
import Derived.Test.YtjedpemjifcciaaCalRAdd
import Derived.Test.YtjedpemjifcciaaCalAll
namespace Go.Proofs.Ytjedpemjifcciaa
open Go.ChangeShapes Go.WideShapes Go.ChangeAt Go.RowKit Go.Sort Go.Shelf

theorem recs_s : Recs [(2, 100, 9, 4, 1)] := ⟨by decide, fun i hi => by
  have : i = 0 := by simp at hi; omega
  subst this
  exact ⟨by decide, fun h => by omega⟩⟩
theorem recs_l : Recs [(2, 100, 5, 3, 0), (2, 100, 9, 4, 1)] := ⟨by decide, fun i hi => by
  have : i = 0 ∨ i = 1 := by simp at hi; omega
  rcases this with rfl | rfl
  · exact ⟨by decide, fun h => by omega⟩
  · exact ⟨by decide, fun _ => by unfold ltK; decide⟩⟩
theorem recs_0 : Recs [] := ⟨by decide, fun i hi => by simp at hi⟩
theorem addS1 {i : Nat} (h : Pos [(2, 100, 9, 4, 1)] (ky (2, 100, 5, 3, 0)) i) : addC [(2, 100, 9, 4, 1)] (2, 100, 5, 3, 0) i = 0 ∧ addL [(2, 100, 9, 4, 1)] (2, 100, 5, 3, 0) i = [(2, 100, 5, 3, 0), (2, 100, 9, 4, 1)] := by
  have hi : i = 0 := by
    rcases Nat.eq_zero_or_pos i with h0 | h0
    · exact h0
    · have := h.2.1 0 h0
      exact absurd this (by unfold ltK; decide)
  subst hi
  have h0 : addC [(2, 100, 9, 4, 1)] (2, 100, 5, 3, 0) 0 = 0 := addC_ok recs_s (hasK_f fun _ => by decide) (by decide) (by decide)
  exact ⟨h0, by rw [addL_ok h0]; rfl⟩
theorem addS2 {i : Nat} (h : Pos [(2, 100, 5, 3, 0), (2, 100, 9, 4, 1)] (ky (2, 100, 5, 3, 0)) i) : addC [(2, 100, 5, 3, 0), (2, 100, 9, 4, 1)] (2, 100, 5, 3, 0) i = 420 := by
  have hi : i = 0 := by
    rcases Nat.eq_zero_or_pos i with h0 | h0
    · exact h0
    · exact absurd (h.2.1 0 h0) ltK_irr
  subst hi
  exact addC_bad recs_l (.inl (hasK_t (by decide) rfl))
theorem atS1 : atV [(2, 100, 5, 3, 0), (2, 100, 9, 4, 1)] 2 150 8 = (3, 0, true, 0) := by rw [atV_yes recs_l (by unfold argOk; omega)]; decide
theorem atS2 : atV [(2, 100, 5, 3, 0), (2, 100, 9, 4, 1)] 2 150 9 = (4, 1, true, 0) := by rw [atV_yes recs_l (by unfold argOk; omega)]; decide
theorem atS3 : atV [] 0 0 0 = (0, 0, false, 0) := by rw [atV_yes recs_0 (by unfold argOk; omega)]; decide
theorem atS4 : atV [(2, 100, 5, 3, 0), (2, 100, 9, 4, 1)] 16 0 0 = (0, 0, false, 1) := by rw [atV_bad recs_l (by unfold argOk; omega)]
theorem chS1 : chgC [(2, 100, 5, 3, 0), (2, 100, 9, 4, 1)] 8 9 = 0 := chgC_ok recs_l (by decide) (by decide)
theorem chS2 : chgL [(2, 100, 5, 3, 0), (2, 100, 9, 4, 1)] 8 9 = [(2, 100, 1099511627777)] := by rw [chgL_ok recs_l (by decide) (by decide)]; decide +kernel
theorem chS3 : chgC [(2, 100, 5, 3, 0), (2, 100, 9, 4, 1)] 5 5 = 0 := chgC_ok recs_l (by decide) (by decide)
theorem chS4 : chgL [(2, 100, 5, 3, 0), (2, 100, 9, 4, 1)] 5 5 = [] := by rw [chgL_ok recs_l (by decide) (by decide)]; decide +kernel
set_option maxRecDepth 100000 in
set_option maxHeartbeats 8000000 in
theorem sane_any (w : World) : Calls Try.prog 9 #[] w fun e w' => e = .returned (.bool true) ∧ Below w.heap.size w w' := by
  go_enter Try.func9, Try.ntmps9
  go_upto_region 2 with fail
  have H0 := Lib.hid (show Below w.heap.size w ((w.alloc (.cells #[.int .i64 2, .int .i64 100, .int .i64 5, .int .i64 3, .int .i64 0] 24)).alloc (.cells #[.int .i64 2, .int .i64 100, .int .i64 9, .int .i64 4, .int .i64 1] 24)) ∧ ((w.alloc (.cells #[.int .i64 2, .int .i64 100, .int .i64 5, .int .i64 3, .int .i64 0] 24)).alloc (.cells #[.int .i64 2, .int .i64 100, .int .i64 9, .int .i64 4, .int .i64 1] 24)).heap[w.heap.size]? = some (.cells #[.int .i64 2, .int .i64 100, .int .i64 5, .int .i64 3, .int .i64 0] 24 (0, 0)) ∧ ((w.alloc (.cells #[.int .i64 2, .int .i64 100, .int .i64 5, .int .i64 3, .int .i64 0] 24)).alloc (.cells #[.int .i64 2, .int .i64 100, .int .i64 9, .int .i64 4, .int .i64 1] 24)).heap[w.heap.size + 1]? = some (.cells #[.int .i64 2, .int .i64 100, .int .i64 9, .int .i64 4, .int .i64 1] 24 (0, 0)) from ⟨((Below.refl _ _).alloc (Nat.le_refl _) _).alloc (by simp) _, blk_alloc (blk_new _ _) _, by have := blk_new (w.alloc (.cells #[.int .i64 2, .int .i64 100, .int .i64 5, .int .i64 3, .int .i64 0] 24)) (.cells #[.int .i64 2, .int .i64 100, .int .i64 9, .int .i64 4, .int .i64 1] 24); rwa [World.size_alloc] at this⟩)
  generalize (w.alloc (.cells #[.int .i64 2, .int .i64 100, .int .i64 5, .int .i64 3, .int .i64 0] 24)).alloc (.cells #[.int .i64 2, .int .i64 100, .int .i64 9, .int .i64 4, .int .i64 1] 24) = W0 at *
  have g0 := blk_cell H0.out.2.2 0
  have g1 := blk_cell H0.out.2.2 1
  have g2 := blk_cell H0.out.2.2 2
  have g3 := blk_cell H0.out.2.2 3
  have g4 := blk_cell H0.out.2.2 4
  simp at g0 g1 g2 g3 g4
  have hq0 : (W0.alloc (.cells #[.int .i64 2, .int .i64 100, .int .i64 9, .int .i64 4, .int .i64 1] 24)).heap[w.heap.size]? = some (.cells #[.int .i64 2, .int .i64 100, .int .i64 5, .int .i64 3, .int .i64 0] 24 (0, 0)) := blk_alloc H0.out.2.1 _
  have d0 := blk_cell hq0 0
  have d1 := blk_cell hq0 1
  have d2 := blk_cell hq0 2
  have d3 := blk_cell hq0 3
  have d4 := blk_cell hq0 4
  simp at d0 d1 d2 d3 d4
  clear hq0
  go_wp2_with fail
  clear d0 d1 d2 d3 d4 g0 g1 g2 g3 g4
  have HA := Lib.hid (show Rs (W0.alloc (.cells #[.int .i64 2, .int .i64 100, .int .i64 9, .int .i64 4, .int .i64 1] 24)) (some ⟨W0.heap.size, 0, none⟩) 1 W0.heap.size 0 [(2, 100, 9, 4, 1)] ∧ Below w.heap.size w (W0.alloc (.cells #[.int .i64 2, .int .i64 100, .int .i64 9, .int .i64 4, .int .i64 1] 24)) ∧ (W0.alloc (.cells #[.int .i64 2, .int .i64 100, .int .i64 9, .int .i64 4, .int .i64 1] 24)).heap[w.heap.size]? = some (.cells #[.int .i64 2, .int .i64 100, .int .i64 5, .int .i64 3, .int .i64 0] 24 (0, 0)) ∧ (W0.alloc (.cells #[.int .i64 2, .int .i64 100, .int .i64 9, .int .i64 4, .int .i64 1] 24)).heap[w.heap.size + 1]? = some (.cells #[.int .i64 2, .int .i64 100, .int .i64 9, .int .i64 4, .int .i64 1] 24 (0, 0)) from ⟨Rs.lit _ _ _ _ rfl (fun i hi => by cases (show i = 0 by omega); exact ⟨rfl, rfl, rfl, rfl, rfl⟩), H0.out.1.alloc H0.out.1.size _, blk_alloc H0.out.2.1 _, blk_alloc H0.out.2.2 _⟩)
  generalize W0.alloc (.cells #[.int .i64 2, .int .i64 100, .int .i64 9, .int .i64 4, .int .i64 1] 24) = W1 at *
  refine (add_any (some ⟨W0.heap.size, 0, none⟩) 1 1 W0.heap.size 0 [(2, 100, 9, 4, 1)] (2, 100, 5, 3, 0) W1 HA.out.1 (by omega) (fun h => by cases h)).mono ?_
  rintro e W2 ⟨i, v, hp, rfl, hO, hb⟩
  obtain ⟨q1, q2⟩ := addS1 (hp recs_s)
  rw [q2] at hO
  rw [q1]
  obtain ⟨a, b, c, rfl, hR, -, hc, -⟩ := hO.s
  replace hR : Rs W2 a 2 b 0 [(2, 100, 5, 3, 0), (2, 100, 9, 4, 1)] := hR
  have H2 := Lib.hid (show _ ∧ _ ∧ _ ∧ _ ∧ _ from ⟨below_after HA.out.2.1 hb HA.out.2.1.size, blk_below HA.out.2.2.1 hb (Array.getElem?_eq_some_iff.1 HA.out.2.2.1).1, blk_below HA.out.2.2.2 hb (Array.getElem?_eq_some_iff.1 HA.out.2.2.2).1, hR, hc⟩)
  clear hp hO hb hc hR q1 q2 HA H0
  go_wp2_with fail
  refine (at_any a 2 c b 0 [(2, 100, 5, 3, 0), (2, 100, 9, 4, 1)] 2 150 8 W2 H2.out.2.2.2.1 (by omega)).mono ?_
  rintro e W3 ⟨rfl, hb⟩
  rw [atS1]
  have H3 := Lib.hid (show _ ∧ _ ∧ _ ∧ _ ∧ _ from ⟨below_after H2.out.1 hb H2.out.1.size, blk_below H2.out.2.1 hb (Array.getElem?_eq_some_iff.1 H2.out.2.1).1, blk_below H2.out.2.2.1 hb (Array.getElem?_eq_some_iff.1 H2.out.2.2.1).1, H2.out.2.2.2.1.grown hb, H2.out.2.2.2.2⟩)
  clear hb H2
  go_wp2_with fail
  refine (at_any a 2 c b 0 [(2, 100, 5, 3, 0), (2, 100, 9, 4, 1)] 2 150 9 W3 H3.out.2.2.2.1 (by omega)).mono ?_
  rintro e W4 ⟨rfl, hb⟩
  rw [atS2]
  have H4 := Lib.hid (show _ ∧ _ ∧ _ ∧ _ ∧ _ from ⟨below_after H3.out.1 hb H3.out.1.size, blk_below H3.out.2.1 hb (Array.getElem?_eq_some_iff.1 H3.out.2.1).1, blk_below H3.out.2.2.1 hb (Array.getElem?_eq_some_iff.1 H3.out.2.2.1).1, H3.out.2.2.2.1.grown hb, H3.out.2.2.2.2⟩)
  clear hb H3
  go_wp2_with fail
  refine (at_any none 0 0 0 0 [] 0 0 0 W4 (Rs.zero _ _) (by omega)).mono ?_
  rintro e W5 ⟨rfl, hb⟩
  rw [atS3]
  have H5 := Lib.hid (show _ ∧ _ ∧ _ ∧ _ ∧ _ from ⟨below_after H4.out.1 hb H4.out.1.size, blk_below H4.out.2.1 hb (Array.getElem?_eq_some_iff.1 H4.out.2.1).1, blk_below H4.out.2.2.1 hb (Array.getElem?_eq_some_iff.1 H4.out.2.2.1).1, H4.out.2.2.2.1.grown hb, H4.out.2.2.2.2⟩)
  clear hb H4
  go_wp2_with fail
  refine (at_any a 2 c b 0 [(2, 100, 5, 3, 0), (2, 100, 9, 4, 1)] 16 0 0 W5 H5.out.2.2.2.1 (by omega)).mono ?_
  rintro e W6 ⟨rfl, hb⟩
  rw [atS4]
  have H6 := Lib.hid (show _ ∧ _ ∧ _ ∧ _ ∧ _ from ⟨below_after H5.out.1 hb H5.out.1.size, blk_below H5.out.2.1 hb (Array.getElem?_eq_some_iff.1 H5.out.2.1).1, blk_below H5.out.2.2.1 hb (Array.getElem?_eq_some_iff.1 H5.out.2.2.1).1, H5.out.2.2.2.1.grown hb, H5.out.2.2.2.2⟩)
  clear hb H5
  have d0 := blk_cell H6.out.2.1 0
  have d1 := blk_cell H6.out.2.1 1
  have d2 := blk_cell H6.out.2.1 2
  have d3 := blk_cell H6.out.2.1 3
  have d4 := blk_cell H6.out.2.1 4
  simp at d0 d1 d2 d3 d4
  go_wp2_with fail
  refine (add_any a 2 c b 0 [(2, 100, 5, 3, 0), (2, 100, 9, 4, 1)] (2, 100, 5, 3, 0) W6 H6.out.2.2.2.1 (by omega) H6.out.2.2.2.2).mono ?_
  rintro e W7 ⟨i, v, hp, rfl, hO, hb⟩
  rw [addS2 (hp recs_l)]
  have H7 := Lib.hid (show _ ∧ _ ∧ _ ∧ _ ∧ _ from ⟨below_after H6.out.1 hb H6.out.1.size, blk_below H6.out.2.1 hb (Array.getElem?_eq_some_iff.1 H6.out.2.1).1, blk_below H6.out.2.2.1 hb (Array.getElem?_eq_some_iff.1 H6.out.2.2.1).1, H6.out.2.2.2.1.grown hb, H6.out.2.2.2.2⟩)
  clear hb H6
  clear hp hO d0 d1 d2 d3 d4
  go_wp2_with fail
  refine (changed_any a 2 c b 0 [(2, 100, 5, 3, 0), (2, 100, 9, 4, 1)] 8 9 W7 H7.out.2.2.2.1 (by omega)).mono ?_
  rintro e W8 ⟨v, rfl, hO, hb⟩
  rw [chS1]
  rw [chS2] at hO
  obtain ⟨xa, xb, xc, rfl, hX, -⟩ := hO.s
  replace hX : Ys W8 xa 1 xb 0 [(2, 100, 1099511627777)] := hX
  have H8 := Lib.hid (show _ ∧ _ ∧ _ ∧ _ ∧ _ from ⟨below_after H7.out.1 hb H7.out.1.size, blk_below H7.out.2.1 hb (Array.getElem?_eq_some_iff.1 H7.out.2.1).1, blk_below H7.out.2.2.1 hb (Array.getElem?_eq_some_iff.1 H7.out.2.2.1).1, H7.out.2.2.2.1.grown hb, H7.out.2.2.2.2⟩)
  clear hb H7
  have HX := Lib.hid hX
  clear hO hX
  go_wp2_with fail
  refine (changed_any a 2 c b 0 [(2, 100, 5, 3, 0), (2, 100, 9, 4, 1)] 5 5 W8 H8.out.2.2.2.1 (by omega)).mono ?_
  rintro e W9 ⟨v, rfl, hO, hb⟩
  rw [chS3]
  rw [chS4] at hO
  obtain ⟨ya, yb, yc, rfl, hY, -⟩ := hO.s
  have HX9 := Lib.hid (HX.out.grown hb)
  have H9 := Lib.hid (show _ ∧ _ ∧ _ ∧ _ ∧ _ from ⟨below_after H8.out.1 hb H8.out.1.size, blk_below H8.out.2.1 hb (Array.getElem?_eq_some_iff.1 H8.out.2.1).1, blk_below H8.out.2.2.1 hb (Array.getElem?_eq_some_iff.1 H8.out.2.2.1).1, H8.out.2.2.2.1.grown hb, H8.out.2.2.2.2⟩)
  clear hb H8
  clear hO hY HX
  go_upto_region 11 with fail
  have d0 := blk_cell H9.out.2.1 0
  have d1 := blk_cell H9.out.2.1 1
  have d2 := blk_cell H9.out.2.1 2
  have d3 := blk_cell H9.out.2.1 3
  have d4 := blk_cell H9.out.2.1 4
  simp at d0 d1 d2 d3 d4
  have g0 := blk_cell H9.out.2.2.1 0
  have g1 := blk_cell H9.out.2.2.1 1
  have g2 := blk_cell H9.out.2.2.1 2
  have g3 := blk_cell H9.out.2.2.1 3
  have g4 := blk_cell H9.out.2.2.1 4
  simp at g0 g1 g2 g3 g4
  go_wp2_with fail
  clear d0 d1 d2 d3 d4 g0 g1 g2 g3 g4
  have HS := Lib.hid (show Rs (W9.alloc (.cells #[.int .i64 2, .int .i64 100, .int .i64 5, .int .i64 3, .int .i64 0, .int .i64 2, .int .i64 100, .int .i64 9, .int .i64 4, .int .i64 1] 24)) (some ⟨W9.heap.size, 0, none⟩) 2 W9.heap.size 0 [(2, 100, 5, 3, 0), (2, 100, 9, 4, 1)] ∧ Rs (W9.alloc (.cells #[.int .i64 2, .int .i64 100, .int .i64 5, .int .i64 3, .int .i64 0, .int .i64 2, .int .i64 100, .int .i64 9, .int .i64 4, .int .i64 1] 24)) a 2 b 0 [(2, 100, 5, 3, 0), (2, 100, 9, 4, 1)] ∧ Below w.heap.size w (W9.alloc (.cells #[.int .i64 2, .int .i64 100, .int .i64 5, .int .i64 3, .int .i64 0, .int .i64 2, .int .i64 100, .int .i64 9, .int .i64 4, .int .i64 1] 24)) ∧ Ys (W9.alloc (.cells #[.int .i64 2, .int .i64 100, .int .i64 5, .int .i64 3, .int .i64 0, .int .i64 2, .int .i64 100, .int .i64 9, .int .i64 4, .int .i64 1] 24)) xa 1 xb 0 [(2, 100, 1099511627777)] from ⟨Rs.lit _ _ _ _ rfl (fun i hi => by rcases (show i = 0 ∨ i = 1 by omega) with rfl | rfl <;> exact ⟨rfl, rfl, rfl, rfl, rfl⟩), H9.out.2.2.2.1.grown ((Below.refl _ _).alloc (Nat.le_refl _) _), H9.out.1.alloc H9.out.1.size _, HX9.out.grown ((Below.refl _ _).alloc (Nat.le_refl _) _)⟩)
  generalize W9.alloc (.cells #[.int .i64 2, .int .i64 100, .int .i64 5, .int .i64 3, .int .i64 0, .int .i64 2, .int .i64 100, .int .i64 9, .int .i64 4, .int .i64 1] 24) = WA at *
  refine (rsame_any a 2 c b 0 [(2, 100, 5, 3, 0), (2, 100, 9, 4, 1)] (some ⟨W9.heap.size, 0, none⟩) 2 2 W9.heap.size 0 [(2, 100, 5, 3, 0), (2, 100, 9, 4, 1)] WA HS.out.2.1 HS.out.1 (by omega) (by omega)).mono ?_
  rintro e WB ⟨rfl, hb⟩
  rw [decide_eq_true rfl]
  have HT := Lib.hid (show _ ∧ _ from ⟨below_after HS.out.2.2.1 hb HS.out.2.2.1.size, HS.out.2.2.2.grown hb⟩)
  clear hb
  go_wp2_with fail
  have HU := Lib.hid (show Ys (WB.alloc (.cells #[.int .i64 2, .int .i64 100, .int .i64 1099511627777] 40)) (some ⟨WB.heap.size, 0, none⟩) 1 WB.heap.size 0 [(2, 100, 1099511627777)] ∧ Ys (WB.alloc (.cells #[.int .i64 2, .int .i64 100, .int .i64 1099511627777] 40)) xa 1 xb 0 [(2, 100, 1099511627777)] ∧ Below w.heap.size w (WB.alloc (.cells #[.int .i64 2, .int .i64 100, .int .i64 1099511627777] 40)) from ⟨Ys.lit _ _ _ _ rfl (fun i hi => by cases (show i = 0 by omega); exact ⟨rfl, rfl, rfl⟩), HT.out.2.grown ((Below.refl _ _).alloc (Nat.le_refl _) _), HT.out.1.alloc HT.out.1.size _⟩)
  generalize WB.alloc (.cells #[.int .i64 2, .int .i64 100, .int .i64 1099511627777] 40) = WC at *
  refine (rspans_any xa 1 xc xb 0 [(2, 100, 1099511627777)] (some ⟨WB.heap.size, 0, none⟩) 1 1 WB.heap.size 0 [(2, 100, 1099511627777)] WC HU.out.2.1 HU.out.1 (by omega) (by omega)).mono ?_
  rintro e WD ⟨rfl, hb⟩
  rw [decide_eq_true rfl]
  have HV := Lib.hid (below_after HU.out.2.2 hb HU.out.2.2.size)
  clear hb
  go_wp2_with fail
  refine (check_any none 0 0 0 0 [] WD (Rs.zero _ _) (by omega)).mono ?_
  rintro e WE ⟨rfl, hb⟩
  rw [chkR_yes recs_0]
  have HW := Lib.hid (below_after HV.out hb HV.out.size)
  clear hb
  go_wp2_with fail
  exact bodyPost_ret (v := .bool true) (by simp [results, Try.results9, go_sem]) rfl ⟨rfl, HW.out⟩
end Go.Proofs.Ytjedpemjifcciaa
