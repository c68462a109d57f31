/- The reference's without (layer 6). -/
import Derived.Test.YthgbkdaimnejeaaNetRSnd
namespace Go.Proofs.Ythgbkdaimnejeaa
open Go.ChangeShapes Go.WideShapes Go.ChangeAt Go.RowKit Go.Sort Go.Shelf

theorem KsO.toV {w : World} {B q : Nat} {v : Value} {l : List Kt} (h : KsO w B v l) : KsV w B q v l := by
  obtain ⟨a', b', c', ev, hK, -, hz', hc', hm'⟩ := h.s
  unfold maxLen at hm'
  refine ⟨a', _, c', b', 0, ev, hK, hz', hc', by omega, fun hn0 => ?_⟩
  obtain ⟨g, c3, ev3, hg⟩ := h.inBlock rfl hn0
  have h4 := (hK.2.1 hn0).1
  rw [ev3] at ev
  injection ev with ev4
  rw [h4] at ev4
  cases ev4
  exact .inr hg
set_option maxRecDepth 100000 in
set_option maxHeartbeats 8000000 in
theorem rwithout_any (qn qc qb qo : Nat) (Q : List Kt) (pa : Option Addr) (pn pc : Nat) (i : Nat) (w : World) (hQ : Ks w (some ⟨qb, qo, none⟩) qn qb qo Q) (hi : i < qn) (hqn : qn ≤ 4096) (hqc : qn ≤ qc) (hqm : qc ≤ 9223372036854775807) :
    Calls Try.prog 41 #[.agg #[.slice (some ⟨qb, qo, none⟩) qn qc, .slice pa pn pc], .int .i64 i] w fun e w' => ∃ v, e = .returned (.agg #[v, .slice pa pn pc]) ∧ KsV w' w.heap.size qb v (Q.take i ++ Q.drop (i + 1)) ∧ Below w.heap.size w w' := by
  obtain ⟨J, hJ⟩ : ∃ J : Nat, J = i + 1 := ⟨_, rfl⟩
  rw [← hJ]
  have HM := Lib.hid (show _ ∧ _ from ⟨hQ, hQ.1⟩)
  clear hQ
  obtain ⟨W, hW⟩ : ∃ W, W = (w.alloc (.cells #[.slice (some ⟨qb, qo, none⟩) qn qc, .slice pa pn pc] 25)).alloc (.cells #[.slice none 0 0, .slice none 0 0] 25) := ⟨_, rfl⟩
  have hB : Below w.heap.size w W := by rw [hW]; go_grown
  have g1 : W.heap[w.heap.size]? = some (.cells #[.slice (some ⟨qb, qo, none⟩) qn qc, .slice pa pn pc] 25 (0, 0)) := by rw [hW]; exact blk_alloc (blk_new _ _) _
  have g2 : W.heap[w.heap.size + 1]? = some (.cells #[.slice none 0 0, .slice none 0 0] 25 (0, 0)) := by rw [hW]; have := blk_new (w.alloc (.cells #[.slice (some ⟨qb, qo, none⟩) qn qc, .slice pa pn pc] 25)) (.cells #[.slice none 0 0, .slice none 0 0] 25); rwa [World.size_alloc] at this
  have HT := Lib.hid (show _ ∧ _ ∧ _ from ⟨g1, g2, hB⟩)
  have hl2 := (Array.getElem?_eq_some_iff.1 g2).1
  have c0 := blk_cell g1 0
  simp at c0
  clear hB g1 g2
  have HJ := Lib.hid hJ
  go_enter Try.func41, Try.ntmps41
  go_upto_region 1 with fail
  rw [← hW]
  clear hW
  have hq1 : i ≤ qc := by omega
  have hq1' : ¬ qc < i := by omega
  have hq2 : J ≤ qn := by omega
  have hk3 : ¬ qn < J := by omega
  have hk4 : ¬ qc < qn := by omega
  have hw : IntKind.i64.wrap ((i : Int) + 1) = (J : Int) := by rw [IntKind.wrap_i64]; omega
  have hJn : (J : Int) ≤ qn := by omega
  have hJ0 : (0 : Int) ≤ J := by omega
  clear hJ
  refine wp_region_dagT 11 [⟨0, 5, [], fun v w' => (∃ g, v = .slice (some ⟨g, 0, none⟩) 0 0) ∧ KsO w' W.heap.size v [], fun _ _ _ hb h => ⟨h.1, h.2.below hb (Nat.le_refl _)⟩, false⟩,
      Nd.lit 1 6 (.pointer (some ⟨w.heap.size, 0, none⟩)),
      Nd.lit 2 7 (.slice (some ⟨qb, qo, none⟩) qn qc) [1],
      Nd.lit 3 8 (.int .i64 i),
      Nd.lit 4 9 (.slice (some ⟨qb, qo, none⟩) i qc) [2, 3],
      ⟨5, 10, [0, 4], fun v w' => KsO w' W.heap.size v (Q.take i), fun _ _ _ hb h => h.below hb (Nat.le_refl _), false⟩,
      Nd.lit 6 11 (.pointer (some ⟨w.heap.size, 0, none⟩)),
      Nd.lit 7 12 (.slice (some ⟨qb, qo, none⟩) qn qc) [6],
      Nd.lit 8 13 (.int .i64 i),
      Nd.lit 9 14 (.int .i64 J) [8],
      ⟨10, 15, [7, 9], fun v w' => ∃ a3 b3 o3, v = .slice a3 (qn - J) (qc - J) ∧ Ks w' a3 (qn - J) b3 o3 (Q.drop J) ∧ (a3 = none → qc - J = 0), fun _ _ _ hb h => by
        obtain ⟨a3, b3, o3, h1, h2, h3⟩ := h
        exact ⟨a3, b3, o3, h1, h2.grown hb, h3⟩, false⟩] (by kernel_rfl) (by kernel_rfl) (by rfl) (by kernel_rfl) (by kernel_rfl) (by kernel_rfl) (by rintro _ _ _ (_ | _) _ h <;> exact h) ?_ ?_
  · refine ⟨?_, ?_, ?_, ?_, ?_, ?_, ?_, ?_, ?_, ?_, ?_, trivial⟩
    · unfold ObN
      simp only [List.getElem?_toArray, List.getElem?_cons_zero]
      intro w' hC
      refine Or.inl ⟨rfl, fun K' Q' hK => ?_⟩
      go_simp
      exact hK _ _ (by go_grown) ⟨⟨_, rfl⟩, (KsO.empty _).mono hC.size⟩
    · unfold ObN
      simp only [List.getElem?_toArray, List.getElem?_cons_succ, List.getElem?_cons_zero]
      intro w' hC
      refine Or.inl ⟨rfl, fun K' Q' hK => ?_⟩
      go_simp
      exact hK _ _ (Below.refl _ _) rfl
    · unfold ObN
      simp only [List.getElem?_toArray, List.getElem?_cons_succ, List.getElem?_cons_zero]
      intro w' hC
      rintro _ rfl
      refine Or.inl ⟨rfl, fun K' Q' hK => ?_⟩
      have y0 := cell_bel hC c0
      go_simp
      exact hK _ _ (Below.refl _ _) rfl
    · unfold ObN
      simp only [List.getElem?_toArray, List.getElem?_cons_succ, List.getElem?_cons_zero]
      intro w' hC
      refine Or.inl ⟨rfl, fun K' Q' hK => ?_⟩
      go_simp
      exact hK _ _ (Below.refl _ _) rfl
    · unfold ObN
      simp only [List.getElem?_toArray, List.getElem?_cons_succ, List.getElem?_cons_zero]
      intro w' hC
      rintro _ rfl
      rintro _ rfl
      refine Or.inl ⟨rfl, fun K' Q' hK => ?_⟩
      go_simp
      exact hK _ _ (Below.refl _ _) rfl
    · unfold ObN
      simp only [List.getElem?_toArray, List.getElem?_cons_succ, List.getElem?_cons_zero]
      intro w' hC
      rintro _ ⟨⟨g0, rfl⟩, h0⟩
      rintro _ rfl
      refine Or.inl ⟨rfl, fun K' Q' hK => ?_⟩
      exact wp_append_litK (.tmp 5) (.tmp 9) rfl W.heap.size g0 (by rfl) h0 (some ⟨qb, qo, none⟩) qb qo i qc (Q.take i) (by rfl) (((HM.out.1.grown HT.out.2.2).grown hC).pre (by omega)) (fun h => by cases h) (by omega) hC.size fun v' w2 h1 h2 => hK _ _ h2 h1
    · unfold ObN
      simp only [List.getElem?_toArray, List.getElem?_cons_succ, List.getElem?_cons_zero]
      intro w' hC
      refine Or.inl ⟨rfl, fun K' Q' hK => ?_⟩
      go_simp
      exact hK _ _ (Below.refl _ _) rfl
    · unfold ObN
      simp only [List.getElem?_toArray, List.getElem?_cons_succ, List.getElem?_cons_zero]
      intro w' hC
      rintro _ rfl
      refine Or.inl ⟨rfl, fun K' Q' hK => ?_⟩
      have y0 := cell_bel hC c0
      go_simp
      exact hK _ _ (Below.refl _ _) rfl
    · unfold ObN
      simp only [List.getElem?_toArray, List.getElem?_cons_succ, List.getElem?_cons_zero]
      intro w' hC
      refine Or.inl ⟨rfl, fun K' Q' hK => ?_⟩
      go_simp
      exact hK _ _ (Below.refl _ _) rfl
    · unfold ObN
      simp only [List.getElem?_toArray, List.getElem?_cons_succ, List.getElem?_cons_zero]
      intro w' hC
      rintro _ rfl
      refine Or.inl ⟨rfl, fun K' Q' hK => ?_⟩
      go_simp
      exact hK _ _ (Below.refl _ _) rfl
    · unfold ObN
      simp only [List.getElem?_toArray, List.getElem?_cons_succ, List.getElem?_cons_zero]
      intro w' hC
      rintro _ rfl
      rintro _ rfl
      refine Or.inl ⟨rfl, fun K' Q' hK => ?_⟩
      obtain ⟨b3, o3, hp1, hp2⟩ := ((HM.out.1.grown HT.out.2.2).grown hC).post (k := J) (by omega) hqc (fun h => by cases h)
      have hp3 : qn ≤ qc := hqc
      by_cases hcj : qc = J
      · rw [if_pos hcj] at hp1 hp2
        subst hcj
        have hJq : qn - qc = 0 := by omega
        go_simp
        exact hK _ _ (Below.refl _ _) ⟨_, _, _, by rw [hJq, Nat.sub_self], hp1, hp2⟩
      · rw [if_neg hcj] at hp1 hp2
        rw [show (some (⟨qb, qo, none⟩ : Addr)).map (·.add (J * 3)) = some ⟨qb, qo + J * 3, none⟩ from by show some (Addr.add ⟨qb, qo, none⟩ (J * 3)) = _; rw [Go.WideShapes.add_plain]] at hp1 hp2
        go_simp
        exact hK _ _ (Below.refl _ _) ⟨_, _, _, rfl, hp1, hp2⟩
  · intro w' hC
    rintro _ ⟨⟨g0, rfl⟩, h0⟩ _ rfl _ rfl _ rfl _ rfl v5 h5 _ rfl _ rfl _ rfl _ rfl v10 ⟨a3, b3, o3, rfl, h10, hz10⟩
    unfold overN
    simp only [List.drop_succ_cons, List.drop_zero, Act.put, List.setIfInBounds_toArray, List.set_cons_succ, List.set_cons_zero]
    have hs3 := hC.size
    have H3 := Lib.hid (show _ ∧ _ ∧ _ ∧ _ ∧ _ ∧ _ ∧ _ from ⟨blk_below HT.out.1 hC (by omega), blk_below HT.out.2.1 hC (by omega), below_after HT.out.2.2 hC HT.out.2.2.size, h5, h10, hC.size, hz10⟩)
    have HTL := Lib.hid (show (Q.take i).length = i from by rw [List.length_take, HM.out.2]; omega)
    clear c0 h0 h5 h10 hC hz10 hw hJ0 hJn
    go_upto_region 2 with (at_builtin; go_loud (refine wpList_append_Ks rfl (.tmp 10) (.tmp 15) rfl W.heap.size v5 (Q.take i) (by rfl) H3.out.2.2.2.1 a3 b3 o3 (qn - J) (qc - J) (Q.drop J) (by rfl) H3.out.2.2.2.2.1 H3.out.2.2.2.2.2.2 (by rw [HTL.out]; omega) H3.out.2.2.2.2.2.1 ?_; intro v6 w6 hO6 hB6 _; obtain ⟨va, vb, vc, rfl, -⟩ := hO6.s; generalize hvn : (Q.take i ++ Q.drop J).length = vn at *; clear hvn; have c0 := blk_cell (blk_below H3.out.1 hB6 (by omega)) 0; have f0 := blk_free (blk_below H3.out.1 hB6 (by omega)) 0; simp at c0; have H4 := Lib.hid (show _ ∧ _ ∧ _ ∧ _ from ⟨blk_below H3.out.1 hB6 (by omega), blk_below H3.out.2.1 hB6 (by omega), H3.out.2.2.1.trans (hB6.mono (by omega)), hO6.mono (show w.heap.size + 1 + 1 ≤ W.heap.size by omega)⟩); clear hO6 hB6))
    have hc := cells_setQ (i := 0) (v := .slice va vn vc) H4.out.1
    have he := (Below.heap_setCell w6 ⟨w.heap.size, 0, none⟩ (.slice va vn vc) (w.heap.size + 1) (show w.heap.size + 1 ≠ w.heap.size by omega)).trans H4.out.2.1
    have hk := H4.out.2.2.2.far (p := w.heap.size) (i := 0) (u := .slice va vn vc) (by omega)
    have H6 := Lib.hid (show _ ∧ _ ∧ _ ∧ _ from ⟨hc, he, hk, H4.out.2.2.1.setCell (p := ⟨w.heap.size, 0, none⟩) (Nat.le_refl _) (.slice va vn vc)⟩)
    clear hc he hk c0 f0
    generalize w6.setCell ⟨w.heap.size, 0, none⟩ (.slice va vn vc) = W6 at *
    have c0 := blk_cell H6.out.1 0; have c1 := blk_cell H6.out.1 1; have e0 := blk_cell H6.out.2.1 0; have e1 := blk_cell H6.out.2.1 1; have f0 := blk_free H6.out.2.1 0; have f1 := blk_free H6.out.2.1 1
    simp at c0 c1 e0 e1
    go_wp2
    have hE := boxQ_set (u0 := .slice va vn vc) (u1 := .slice pa pn pc) H6.out.2.1
    have hBe := boxQ_below (b := w.heap.size + 1) (u0 := .slice va vn vc) (u1 := .slice pa pn pc) (show w.heap.size ≤ w.heap.size + 1 by omega) H6.out.2.2.2
    have hOe := (H6.out.2.2.1.far (p := w.heap.size + 1) (i := 0) (u := .slice va vn vc) (by omega)).far (p := w.heap.size + 1) (i := 1) (u := .slice pa pn pc) (by omega)
    have e0' := blk_cell hE 0; have e1' := blk_cell hE 1
    simp at e0' e1'
    exact bodyPost_ret (v := .agg #[.slice va vn vc, .slice pa pn pc]) (by simp [results, Try.results41, go_sem, e0', e1']) rfl ⟨_, rfl, (hOe.mono (by omega)).toV, hBe⟩
end Go.Proofs.Ythgbkdaimnejeaa
