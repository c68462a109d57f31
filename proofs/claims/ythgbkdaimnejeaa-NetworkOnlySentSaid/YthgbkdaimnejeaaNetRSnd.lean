/- The reference's Send (layer 6). -/
import Derived.Test.YthgbkdaimnejeaaNetDel
import Derived.Test.YthgbkdaimnejeaaDag
import Derived.Test.YthgbkdaimnejeaaNetLitK
namespace Go.Proofs.Ythgbkdaimnejeaa
open Go.ChangeShapes Go.WideShapes Go.ChangeAt Go.RowKit Go.Sort Go.Shelf

set_option maxRecDepth 100000 in
set_option maxHeartbeats 8000000 in
theorem rsend_any (qa : Option Addr) (qn qc qb qo : Nat) (Q : List Kt) (pa : Option Addr) (pn pc pb po : Nat) (A : List Qt) (m : Kt) (w : World) (hQ : Ks w qa qn qb qo Q) (hA : Qs w pa pn pb po A) (hqn : qn ≤ 9223372036854775807) (hpn : pn ≤ 9223372036854775807) (hz : qa = none → qc = 0) :
    Calls Try.prog 12 #[.agg #[.slice qa qn qc, .slice pa pn pc], vK m] w (SendP Q A m (.slice pa pn pc) w) := by
  have HM := Lib.hid (show _ ∧ _ ∧ _ ∧ _ from ⟨hQ, hA, hQ.1, hz⟩)
  clear hQ hA hz
  obtain ⟨m0, m1, ma, mn, mc⟩ := m
  dsimp only [vK]
  obtain ⟨W, hW⟩ : ∃ W, W = ((w.alloc (.cells #[.slice qa qn qc, .slice pa pn pc] 25)).alloc (.cells #[.int .i64 m0, .int .i64 m1, .slice ma mn mc] 28)).alloc (.cells #[.slice none 0 0, .slice none 0 0] 25) := ⟨_, rfl⟩
  have hB : Below w.heap.size w W := by rw [hW]; go_grown
  have g1 : W.heap[w.heap.size]? = some (.cells #[.slice qa qn qc, .slice pa pn pc] 25 (0, 0)) := by rw [hW]; exact blk_alloc (blk_alloc (blk_new _ _) _) _
  have g2 : W.heap[w.heap.size + 1]? = some (.cells #[.int .i64 m0, .int .i64 m1, .slice ma mn mc] 28 (0, 0)) := by rw [hW]; have := blk_new (w.alloc (.cells #[.slice qa qn qc, .slice pa pn pc] 25)) (.cells #[.int .i64 m0, .int .i64 m1, .slice ma mn mc] 28); rw [World.size_alloc] at this; exact blk_alloc this _
  have g3 : W.heap[w.heap.size + 1 + 1]? = some (.cells #[.slice none 0 0, .slice none 0 0] 25 (0, 0)) := by rw [hW]; have := blk_new ((w.alloc (.cells #[.slice qa qn qc, .slice pa pn pc] 25)).alloc (.cells #[.int .i64 m0, .int .i64 m1, .slice ma mn mc] 28)) (.cells #[.slice none 0 0, .slice none 0 0] 25); rw [World.size_alloc, World.size_alloc] at this; exact this
  have H := Lib.hid (show _ ∧ _ ∧ _ ∧ _ from ⟨g1, g2, g3, hB⟩)
  clear hB g1 g2 g3
  have c0 := blk_cell H.out.1 0; have c1 := blk_cell H.out.1 1; have d0 := blk_cell H.out.2.1 0; have d1 := blk_cell H.out.2.1 1; have d2 := blk_cell H.out.2.1 2
  simp at c0 c1 d0 d1 d2
  go_enter Try.func12, Try.ntmps12
  go_upto_region 1 with fail
  rw [← hW]
  clear hW
  go_wp2_with fail
  clear c0 c1 d0 d1 d2
  refine (rcheck_any qa qn qc qb qo Q pa pn pc pb po A W (HM.out.1.grown H.out.2.2.2) (HM.out.2.1.grown H.out.2.2.2) hqn hpn).mono ?_
  rintro e W1 ⟨rfl, hb⟩
  have H1 := Lib.hid (show _ ∧ _ ∧ _ ∧ _ from ⟨blk_below H.out.1 hb (Array.getElem?_eq_some_iff.1 H.out.1).1, blk_below H.out.2.1 hb (Array.getElem?_eq_some_iff.1 H.out.2.1).1, blk_below H.out.2.2.1 hb (Array.getElem?_eq_some_iff.1 H.out.2.2.1).1, below_after H.out.2.2.2 hb H.out.2.2.2.size⟩)
  clear hb
  by_cases hN : NetOk Q A
  case neg =>
    have HN := Lib.hid hN
    rw [chkN_no hN]
    clear hN
    have e0 := blk_cell H1.out.2.2.1 0; have e1 := blk_cell H1.out.2.2.1 1; have f0 := blk_free H1.out.2.2.1 0; have f1 := blk_free H1.out.2.2.1 1
    simp at e0 e1
    go_wp2
    have hE := boxQ_set (u0 := .slice none 0 0) (u1 := .slice none 0 0) H1.out.2.2.1
    have hBe := (H1.out.2.2.2.setCell (p := ⟨w.heap.size + 1 + 1, 0, none⟩) (show w.heap.size ≤ w.heap.size + 1 + 1 by omega) (.slice none 0 0)).setCell (p := ⟨w.heap.size + 1 + 1, 1, none⟩) (show w.heap.size ≤ w.heap.size + 1 + 1 by omega) (.slice none 0 0)
    have e0' := blk_cell hE 0; have e1' := blk_cell hE 1
    simp at e0' e1'
    exact bodyPost_ret (v := .tuple #[.agg #[.slice none 0 0, .slice none 0 0], .int .i64 60]) (by simp [results, Try.results12, go_sem, e0', e1']) rfl (.inl ⟨fun g => HN.out g.1, rfl, hBe⟩)
  have HN := Lib.hid hN
  have hq4 : qn ≤ 4096 := by rw [← HM.out.2.2.1]; exact hN.1
  rw [chkN_yes hN]
  clear hN
  have c0 := blk_cell H1.out.1 0; have c1 := blk_cell H1.out.1 1; have d0 := blk_cell H1.out.2.1 0; have d1 := blk_cell H1.out.2.1 1; have d2 := blk_cell H1.out.2.1 2
  simp at c0 c1 d0 d1 d2
  go_wp2_with fail
  clear c0 c1 d0 d1 d2
  refine (rpacket_any (m0, m1, ma, mn, mc) W1).mono ?_
  rintro e W2 ⟨rfl, hb⟩
  have H2 := Lib.hid (show _ ∧ _ ∧ _ ∧ _ from ⟨blk_below H1.out.1 hb (Array.getElem?_eq_some_iff.1 H1.out.1).1, blk_below H1.out.2.1 hb (Array.getElem?_eq_some_iff.1 H1.out.2.1).1, blk_below H1.out.2.2.1 hb (Array.getElem?_eq_some_iff.1 H1.out.2.2.1).1, below_after H1.out.2.2.2 hb H1.out.2.2.2.size⟩)
  clear hb
  by_cases hv : okK (m0, m1, ma, mn, mc)
  case neg =>
    rw [decide_eq_false hv]
    have HV := Lib.hid hv
    clear hv
    have e0 := blk_cell H2.out.2.2.1 0; have e1 := blk_cell H2.out.2.2.1 1; have f0 := blk_free H2.out.2.2.1 0; have f1 := blk_free H2.out.2.2.1 1
    simp at e0 e1
    go_wp2
    have hE := boxQ_set (u0 := .slice none 0 0) (u1 := .slice none 0 0) H2.out.2.2.1
    have hBe := (H2.out.2.2.2.setCell (p := ⟨w.heap.size + 1 + 1, 0, none⟩) (show w.heap.size ≤ w.heap.size + 1 + 1 by omega) (.slice none 0 0)).setCell (p := ⟨w.heap.size + 1 + 1, 1, none⟩) (show w.heap.size ≤ w.heap.size + 1 + 1 by omega) (.slice none 0 0)
    have e0' := blk_cell hE 0; have e1' := blk_cell hE 1
    simp at e0' e1'
    exact bodyPost_ret (v := .tuple #[.agg #[.slice none 0 0, .slice none 0 0], .int .i64 60]) (by simp [results, Try.results12, go_sem, e0', e1']) rfl (.inl ⟨fun g => HV.out g.2, rfl, hBe⟩)
  rw [decide_eq_true hv]
  have HV := Lib.hid hv
  clear hv
  have c0 := blk_cell H2.out.1 0; have c1 := blk_cell H2.out.1 1; have d0 := blk_cell H2.out.2.1 0; have d1 := blk_cell H2.out.2.1 1; have d2 := blk_cell H2.out.2.1 2
  simp at c0 c1 d0 d1 d2
  have e0 := blk_cell H2.out.2.2.1 0; have e1 := blk_cell H2.out.2.2.1 1; have f0 := blk_free H2.out.2.2.1 0; have f1 := blk_free H2.out.2.2.1 1
  simp at e0 e1
  by_cases hl : Q.length = 4096
  · have hqq : qn = 4096 := by rw [← HM.out.2.2.1]; exact hl
    have z : ((qn : Int) == 4096) = true := by simp; omega
    have HL := Lib.hid hl
    clear hl hqq
    go_wp2
    have hE := boxQ_set (u0 := .slice none 0 0) (u1 := .slice none 0 0) H2.out.2.2.1
    have hBe := (H2.out.2.2.2.setCell (p := ⟨w.heap.size + 1 + 1, 0, none⟩) (show w.heap.size ≤ w.heap.size + 1 + 1 by omega) (.slice none 0 0)).setCell (p := ⟨w.heap.size + 1 + 1, 1, none⟩) (show w.heap.size ≤ w.heap.size + 1 + 1 by omega) (.slice none 0 0)
    have e0' := blk_cell hE 0; have e1' := blk_cell hE 1
    simp at e0' e1'
    exact bodyPost_ret (v := .tuple #[.agg #[.slice none 0 0, .slice none 0 0], .int .i64 2]) (by simp [results, Try.results12, go_sem, e0', e1']) rfl (.inr ⟨⟨HN.out, HV.out⟩, .inl ⟨HL.out, rfl, hBe⟩⟩)
  have hqq : qn ≠ 4096 := by rw [← HM.out.2.2.1]; exact hl
  have z : ((qn : Int) == 4096) = false := by simp; omega
  have HL := Lib.hid hl
  clear hl hqq
  go_upto_region 5 with fail
  refine wp_region_dagT 6 [⟨0, 20, [], fun v w' => (∃ g, v = .slice (some ⟨g, 0, none⟩) 0 0) ∧ KsO w' W2.heap.size v [], fun _ _ _ hb h => ⟨h.1, h.2.below hb (Nat.le_refl _)⟩, false⟩,
      Nd.lit 1 21 (.pointer (some ⟨w.heap.size, 0, none⟩)),
      Nd.lit 2 22 (.slice qa qn qc) [1],
      ⟨3, 23, [0, 2], fun v w' => KsO w' W2.heap.size v Q, fun _ _ _ hb h => h.below hb (Nat.le_refl _), false⟩,
      Nd.lit 4 24 (.agg #[.int .i64 m0, .int .i64 m1, .slice ma mn mc]),
      Nd.bs 5 25 1 #[.int .i64 m0, .int .i64 m1, .slice ma mn mc] 28 [4]] (by kernel_rfl) (by kernel_rfl) (by rfl) (by kernel_rfl) (by kernel_rfl) (by kernel_rfl) (by rintro _ _ _ (_ | _) _ h <;> exact h) ?_ ?_
  · refine ⟨?_, ?_, ?_, ?_, ?_, ?_, trivial⟩
    · unfold ObN
      simp only [List.getElem?_toArray, List.getElem?_cons_zero]
      intro w' hC
      refine Or.inl ⟨rfl, fun K' Q' hK => ?_⟩
      go_simp
      exact hK _ _ (by go_grown) ⟨⟨_, rfl⟩, (KsO.empty _).mono hC.size⟩
    · unfold ObN
      simp only [List.getElem?_toArray, List.getElem?_cons_succ, List.getElem?_cons_zero]
      intro w' hC
      refine Or.inl ⟨rfl, fun K' Q' hK => ?_⟩
      go_simp
      exact hK _ _ (Below.refl _ _) rfl
    · unfold ObN
      simp only [List.getElem?_toArray, List.getElem?_cons_succ, List.getElem?_cons_zero]
      intro w' hC
      rintro _ rfl
      refine Or.inl ⟨rfl, fun K' Q' hK => ?_⟩
      have y0 := cell_bel hC c0
      go_simp
      exact hK _ _ (Below.refl _ _) rfl
    · unfold ObN
      simp only [List.getElem?_toArray, List.getElem?_cons_succ, List.getElem?_cons_zero]
      intro w' hC
      rintro _ ⟨⟨g0, rfl⟩, h0⟩
      rintro _ rfl
      refine Or.inl ⟨rfl, fun K' Q' hK => ?_⟩
      exact wp_append_litK (.tmp 20) (.tmp 22) rfl W2.heap.size g0 (by rfl) h0 qa qb qo qn qc Q (by rfl) ((HM.out.1.grown H2.out.2.2.2).grown hC) HM.out.2.2.2 (by omega) hC.size fun v' w2 h1 h2 => hK _ _ h2 h1
    · unfold ObN
      simp only [List.getElem?_toArray, List.getElem?_cons_succ, List.getElem?_cons_zero]
      intro w' hC
      refine Or.inl ⟨rfl, fun K' Q' hK => ?_⟩
      have y0 := cell_bel hC d0
      have y1 := cell_bel hC d1
      have y2 := cell_bel hC d2
      go_simp
      exact hK _ _ (Below.refl _ _) rfl
    · unfold ObN
      simp only [List.getElem?_toArray, List.getElem?_cons_succ, List.getElem?_cons_zero]
      intro w' hC
      rintro _ rfl
      refine Or.inl ⟨rfl, fun K' Q' hK => ?_⟩
      go_simp
      exact hK _ _ (by go_grown) ⟨_, rfl, blk_new _ _⟩
  · intro w' hC
    rintro _ ⟨⟨g0, rfl⟩, h0⟩ _ rfl _ rfl v3 h3 _ rfl v5 ⟨g5, rfl, h5⟩
    unfold overN
    simp only [List.drop_succ_cons, List.drop_zero, Act.put, List.setIfInBounds_toArray, List.set_cons_succ, List.set_cons_zero]
    have hs2 := (Array.getElem?_eq_some_iff.1 H2.out.2.2.1).1
    have hs3 := hC.size
    have H3 := Lib.hid (show _ ∧ _ ∧ _ ∧ _ ∧ _ ∧ _ from ⟨blk_below H2.out.1 hC (by omega), blk_below H2.out.2.2.1 hC (by omega), below_after H2.out.2.2.2 hC H2.out.2.2.2.size, h3, h5, hC.size⟩)
    clear c0 c1 d0 d1 d2 e0 e1 f0 f1 h0 h3 h5 hC
    go_upto_region 6 with (at_builtin; refine wpList_append_K rfl (.tmp 23) (.tmp 25) rfl W2.heap.size v3 Q (by rfl) H3.out.2.2.2.1 g5 (m0, m1, ma, mn, mc) (by rfl) 28 (0, 0) H3.out.2.2.2.2.1 (by rw [HM.out.2.2.1]; omega) H3.out.2.2.2.2.2 ?_; intro v6 w6 hO6 hB6 _; obtain ⟨va, vb, vc, rfl, -⟩ := hO6.s; generalize hvn : (Q ++ [(m0, m1, ma, mn, mc)]).length = vn at *; clear hvn; have c0 := blk_cell (blk_below H3.out.1 hB6 (by omega)) 0; have f0 := blk_free (blk_below H3.out.1 hB6 (by omega)) 0; simp at c0; have H4 := Lib.hid (show _ ∧ _ ∧ _ ∧ _ from ⟨blk_below H3.out.1 hB6 (by omega), blk_below H3.out.2.1 hB6 (by omega), H3.out.2.2.1.trans (hB6.mono (by omega)), hO6.mono (show w.heap.size + 1 + 1 + 1 ≤ W2.heap.size by omega)⟩); clear hO6 hB6)
    have hc := cells_setQ (i := 0) (v := .slice va vn vc) H4.out.1
    have he := (Below.heap_setCell w6 ⟨w.heap.size, 0, none⟩ (.slice va vn vc) (w.heap.size + 1 + 1) (show w.heap.size + 1 + 1 ≠ w.heap.size by omega)).trans H4.out.2.1
    have hk := H4.out.2.2.2.far (p := w.heap.size) (i := 0) (u := .slice va vn vc) (by omega)
    have H6 := Lib.hid (show _ ∧ _ ∧ _ ∧ _ from ⟨hc, he, hk, H4.out.2.2.1.setCell (p := ⟨w.heap.size, 0, none⟩) (Nat.le_refl _) (.slice va vn vc)⟩)
    clear hc he hk c0 f0
    generalize w6.setCell ⟨w.heap.size, 0, none⟩ (.slice va vn vc) = W6 at *
    have c0 := blk_cell H6.out.1 0; have c1 := blk_cell H6.out.1 1; have e0 := blk_cell H6.out.2.1 0; have e1 := blk_cell H6.out.2.1 1; have f0 := blk_free H6.out.2.1 0; have f1 := blk_free H6.out.2.1 1
    simp at c0 c1 e0 e1
    go_wp2
    have hE := boxQ_set (u0 := .slice va vn vc) (u1 := .slice pa pn pc) H6.out.2.1
    have hBe := boxQ_below (b := w.heap.size + 1 + 1) (u0 := .slice va vn vc) (u1 := .slice pa pn pc) (show w.heap.size ≤ w.heap.size + 1 + 1 by omega) H6.out.2.2.2
    have hOe := (H6.out.2.2.1.far (p := w.heap.size + 1 + 1) (i := 0) (u := .slice va vn vc) (by omega)).far (p := w.heap.size + 1 + 1) (i := 1) (u := .slice pa pn pc) (by omega)
    have e0' := blk_cell hE 0; have e1' := blk_cell hE 1
    simp at e0' e1'
    exact bodyPost_ret (v := .tuple #[.agg #[.slice va vn vc, .slice pa pn pc], .int .i64 0]) (by simp [results, Try.results12, go_sem, e0', e1']) rfl (.inr ⟨⟨HN.out, HV.out⟩, .inr ⟨HL.out, _, rfl, hOe.mono (by omega), hBe⟩⟩)
end Go.Proofs.Ythgbkdaimnejeaa
