/- Deliver (layer 6). -/
import Derived.Test.YthgbkdaimnejeaaNetCont
namespace Go.Proofs.Ythgbkdaimnejeaa
open Go.ChangeShapes Go.WideShapes Go.ChangeAt Go.RowKit Go.Sort Go.Shelf

noncomputable def delK (A : List Qt) (m : Kt) : Kt := by classical exact if prQ m.1 m.2.1 ∈ A then (0, 0, none, 0, 0) else m
theorem delK_t {A : List Qt} {m : Kt} (h : prQ m.1 m.2.1 ∈ A) : delK A m = (0, 0, none, 0, 0) := if_pos h
theorem delK_f {A : List Qt} {m : Kt} (h : prQ m.1 m.2.1 ∉ A) : delK A m = m := if_neg h
/-- A packet is taken out. -/
def DelP (qb : Nat) (Q : List Kt) (A : List Qt) (i : Int) (pv : Value) (w : World) (e : Ending) (w' : World) : Prop :=
  (askC Q A i ≠ 0 ∧ e = .returned (.tuple #[.agg #[.int .i64 0, .int .i64 0, .slice none 0 0], .agg #[.slice none 0 0, .slice none 0 0], .int .i64 (askC Q A i)]) ∧ Below w.heap.size w w') ∨
  (∃ (k : Nat) (v : Value), i = k ∧ k < Q.length ∧ NetOk Q A ∧ e = .returned (.tuple #[vK (delK A (nthK Q k)), .agg #[v, pv], .int .i64 0]) ∧ KsV w' w.heap.size qb v (Q.take k ++ Q.drop (k + 1)) ∧ Below w.heap.size w w')
set_option maxRecDepth 100000 in
set_option maxHeartbeats 8000000 in
theorem deliver_any (qa : Option Addr) (qn qc qb qo : Nat) (Q : List Kt) (pa : Option Addr) (pn pc pb po : Nat) (A : List Qt) (i : Int) (w : World) (hQ : Ks w qa qn qb qo Q) (hA : Qs w pa pn pb po A) (hqn : qn ≤ 9223372036854775807) (hpn : pn ≤ 9223372036854775807) (hqc : qn ≤ qc) (hqm : qc ≤ 9223372036854775807) :
    Calls Try.prog 20 #[.agg #[.slice qa qn qc, .slice pa pn pc], .int .i64 i] w (DelP qb Q A i (.slice pa pn pc) w) := by
  have HM := Lib.hid (show _ ∧ _ ∧ _ from ⟨hQ, hA, hQ.1⟩)
  clear hQ hA
  obtain ⟨W, hW⟩ : ∃ W, W = ((w.alloc (.cells #[.slice qa qn qc, .slice pa pn pc] 25)).alloc (.cells #[.int .i64 0, .int .i64 0, .slice none 0 0] 28)).alloc (.cells #[.slice none 0 0, .slice none 0 0] 25) := ⟨_, rfl⟩
  have hB : Below w.heap.size w W := by rw [hW]; go_grown
  have h1 : W.heap[w.heap.size]? = some (.cells #[.slice qa qn qc, .slice pa pn pc] 25 (0, 0)) := by rw [hW]; exact blk_alloc (blk_alloc (blk_new _ _) _) _
  have h2 : W.heap[w.heap.size + 1]? = some (.cells #[.int .i64 0, .int .i64 0, .slice none 0 0] 28 (0, 0)) := by rw [hW]; have := blk_new (w.alloc (.cells #[.slice qa qn qc, .slice pa pn pc] 25)) (.cells #[.int .i64 0, .int .i64 0, .slice none 0 0] 28); rw [World.size_alloc] at this; exact blk_alloc this _
  have h3 : W.heap[w.heap.size + 1 + 1]? = some (.cells #[.slice none 0 0, .slice none 0 0] 25 (0, 0)) := by rw [hW]; have := blk_new ((w.alloc (.cells #[.slice qa qn qc, .slice pa pn pc] 25)).alloc (.cells #[.int .i64 0, .int .i64 0, .slice none 0 0] 28)) (.cells #[.slice none 0 0, .slice none 0 0] 25); rw [World.size_alloc, World.size_alloc] at this; exact this
  have H := Lib.hid (show _ ∧ _ ∧ _ ∧ _ from ⟨h1, h2, h3, hB⟩)
  clear hB h1 h2 h3
  have c0 := blk_cell H.out.1 0; have c1 := blk_cell H.out.1 1
  simp at c0 c1
  go_enter Try.func20, Try.ntmps20
  go_upto_region 1 with fail
  rw [← hW]
  clear hW
  go_wp2_with fail
  clear c0 c1
  refine (find_any qa qn qc qb qo Q pa pn pc pb po A i W (HM.out.1.grown H.out.2.2.2) (HM.out.2.1.grown H.out.2.2.2) hqn hpn).mono ?_
  rintro e W1 ⟨rfl, hb⟩
  have H1 := Lib.hid (show _ ∧ _ ∧ _ ∧ _ from ⟨blk_below H.out.1 hb (Array.getElem?_eq_some_iff.1 H.out.1).1, blk_below H.out.2.1 hb (Array.getElem?_eq_some_iff.1 H.out.2.1).1, blk_below H.out.2.2.1 hb (Array.getElem?_eq_some_iff.1 H.out.2.2.1).1, below_after H.out.2.2.2 hb H.out.2.2.2.size⟩)
  clear hb
  by_cases h0 : askC Q A i = 0
  case neg =>
    obtain ⟨c, hc⟩ : ∃ c, c = askC Q A i := ⟨_, rfl⟩
    rw [← hc] at h0 ⊢
    have HC := Lib.hid (show _ ∧ _ from ⟨hc, h0⟩)
    have zc : (c == 0) = false := by simpa using h0
    have zc' : (c != 0) = true := by simpa using h0
    clear hc h0
    have d0 := blk_cell H1.out.2.1 0; have d1 := blk_cell H1.out.2.1 1; have d2 := blk_cell H1.out.2.1 2
    have g0 := blk_free H1.out.2.1 0; have g1 := blk_free H1.out.2.1 1; have g2 := blk_free H1.out.2.1 2
    have e0 := blk_cell H1.out.2.2.1 0; have e1 := blk_cell H1.out.2.2.1 1
    have f0 := blk_free H1.out.2.2.1 0; have f1 := blk_free H1.out.2.2.1 1
    simp at d0 d1 d2 e0 e1
    go_wp2
    have hD := boxK_set (u0 := .int .i64 0) (u1 := .int .i64 0) (u2 := .slice none 0 0) H1.out.2.1
    have hE0 := boxK_far (b := w.heap.size + 1) (u0 := .int .i64 0) (u1 := .int .i64 0) (u2 := .slice none 0 0) (q := w.heap.size + 1 + 1) (by omega) H1.out.2.2.1
    have hB0 := boxK_below (b := w.heap.size + 1) (u0 := .int .i64 0) (u1 := .int .i64 0) (u2 := .slice none 0 0) (show w.heap.size ≤ w.heap.size + 1 by omega) H1.out.2.2.2
    have hD1 := boxQ_far (b := w.heap.size + 1 + 1) (u0 := .slice none 0 0) (u1 := .slice none 0 0) (q := w.heap.size + 1) (by omega) hD
    have hE := boxQ_set (u0 := .slice none 0 0) (u1 := .slice none 0 0) hE0
    have hBe := boxQ_below (b := w.heap.size + 1 + 1) (u0 := .slice none 0 0) (u1 := .slice none 0 0) (show w.heap.size ≤ w.heap.size + 1 + 1 by omega) hB0
    have d0' := blk_cell hD1 0; have d1' := blk_cell hD1 1; have d2' := blk_cell hD1 2
    have e0' := blk_cell hE 0; have e1' := blk_cell hE 1
    simp at d0' d1' d2' e0' e1'
    exact bodyPost_ret (v := .tuple #[.agg #[.int .i64 0, .int .i64 0, .slice none 0 0], .agg #[.slice none 0 0, .slice none 0 0], .int .i64 c]) (by simp [results, Try.results20, go_sem, d0', d1', d2', e0', e1']) rfl (.inl ⟨by rw [← HC.out.1]; exact HC.out.2, by rw [← HC.out.1], hBe⟩)
  obtain ⟨hN, hi0, hi1⟩ := askC_zero h0
  rw [h0]
  clear h0
  obtain ⟨k, rfl⟩ : ∃ k : Nat, i = k := ⟨i.toNat, by omega⟩
  rw [HM.out.2.2] at hi1
  have hq4 : qn ≤ 4096 := by rw [← HM.out.2.2]; exact hN.1
  have HN := Lib.hid (show _ ∧ _ from ⟨hN, show k < Q.length from by rw [HM.out.2.2]; omega⟩)
  clear hN
  have hkn : k < qn := by omega
  obtain ⟨rfl, hbw⟩ := HM.out.1.2.1 (by omega)
  obtain ⟨k0, k1, k2⟩ := (HM.out.1.grown H1.out.2.2.2).2.2 k hkn
  obtain ⟨m0, m1, ma, mn, mc, hm⟩ : ∃ m0 m1 ma mn mc, nthK Q k = (m0, m1, ma, mn, mc) := ⟨_, _, _, _, _, rfl⟩
  rw [hm] at k0 k1 k2
  have HK := Lib.hid hm
  clear hm
  dsimp only at k0 k1 k2
  have c0 := blk_cell H1.out.1 0; have c1 := blk_cell H1.out.1 1
  have d0 := blk_cell H1.out.2.1 0; have d1 := blk_cell H1.out.2.1 1; have d2 := blk_cell H1.out.2.1 2
  have g0 := blk_free H1.out.2.1 0; have g1 := blk_free H1.out.2.1 1; have g2 := blk_free H1.out.2.1 2
  simp at c0 c1 d0 d1 d2
  go_upto_region 5 with fail
  clear c0 c1 d0 d1 d2 g0 g1 g2 k0 k1 k2
  have hD := boxK_set (u0 := .int .i64 m0) (u1 := .int .i64 m1) (u2 := .slice ma mn mc) H1.out.2.1
  have hC := boxK_far (b := w.heap.size + 1) (u0 := .int .i64 m0) (u1 := .int .i64 m1) (u2 := .slice ma mn mc) (q := w.heap.size) (by omega) H1.out.1
  have hE := boxK_far (b := w.heap.size + 1) (u0 := .int .i64 m0) (u1 := .int .i64 m1) (u2 := .slice ma mn mc) (q := w.heap.size + 1 + 1) (by omega) H1.out.2.2.1
  have hBb := boxK_below (b := w.heap.size + 1) (u0 := .int .i64 m0) (u1 := .int .i64 m1) (u2 := .slice ma mn mc) (show w.heap.size ≤ w.heap.size + 1 by omega) H1.out.2.2.2
  have H2 := Lib.hid (show _ ∧ _ ∧ _ ∧ _ from ⟨hC, hD, hE, hBb⟩)
  clear hC hD hE hBb
  generalize (((W1.setCell ⟨w.heap.size + 1, 0, none⟩ (.int .i64 m0)).setCell ⟨w.heap.size + 1, 1, none⟩ (.int .i64 m1)).setCell ⟨w.heap.size + 1, 2, none⟩ (.slice ma mn mc)) = W2 at *
  have c0 := blk_cell H2.out.1 0; have c1 := blk_cell H2.out.1 1
  have d0 := blk_cell H2.out.2.1 0; have d1 := blk_cell H2.out.2.1 1; have d2 := blk_cell H2.out.2.1 2
  simp at c0 c1 d0 d1 d2
  replace c0 := cell_regrown c0; replace c1 := cell_regrown c1
  replace d0 := cell_regrown d0; replace d1 := cell_regrown d1; replace d2 := cell_regrown d2
  have hA2 := Lib.hid (HM.out.2.1.grown H2.out.2.2.2)
  by_cases hin : prQ m0 m1 ∈ A
  · have HI := Lib.hid hin
    clear hin
    refine wp_region_quiet_below (by kernel_rfl) (by kernel_rfl) ?_
    repeat (go_big_quiet_step (((first | (go_at_call 34; with_reducible exact Calls.regrown_of (pair_any m0 m1 _)) | (go_at_call 38; with_reducible exact Calls.regrown_of (contains_t pa pn pc pb po A (prQ m0 m1) _ (hA2.out.grown (below_regrown W2 _ _)) hpn HI.out))))))
    refine wpQuiet_nil ?_
    intro W4 hb'
    have hb := of_regrown hb'
    clear hb'
    clear c0 c1 d0 d1 d2
    have H4 := Lib.hid (show _ ∧ _ ∧ _ ∧ _ from ⟨blk_below H2.out.1 hb (Array.getElem?_eq_some_iff.1 H2.out.1).1, blk_below H2.out.2.1 hb (Array.getElem?_eq_some_iff.1 H2.out.2.1).1, blk_below H2.out.2.2.1 hb (Array.getElem?_eq_some_iff.1 H2.out.2.2.1).1, below_after H2.out.2.2.2 hb H2.out.2.2.2.size⟩)
    clear hb
    have d0 := blk_cell H4.out.2.1 0; have d1 := blk_cell H4.out.2.1 1; have d2 := blk_cell H4.out.2.1 2
    have g0 := blk_free H4.out.2.1 0; have g1 := blk_free H4.out.2.1 1; have g2 := blk_free H4.out.2.1 2
    simp at d0 d1 d2
    go_upto_region 7 with fail
    clear d0 d1 d2 g0 g1 g2
    have hD := boxK_set (u0 := .int .i64 0) (u1 := .int .i64 0) (u2 := .slice none 0 0) H4.out.2.1
    have hC := boxK_far (b := w.heap.size + 1) (u0 := .int .i64 0) (u1 := .int .i64 0) (u2 := .slice none 0 0) (q := w.heap.size) (by omega) H4.out.1
    have hE := boxK_far (b := w.heap.size + 1) (u0 := .int .i64 0) (u1 := .int .i64 0) (u2 := .slice none 0 0) (q := w.heap.size + 1 + 1) (by omega) H4.out.2.2.1
    have hBb := boxK_below (b := w.heap.size + 1) (u0 := .int .i64 0) (u1 := .int .i64 0) (u2 := .slice none 0 0) (show w.heap.size ≤ w.heap.size + 1 by omega) H4.out.2.2.2
    have H5 := Lib.hid (show _ ∧ _ ∧ _ ∧ _ from ⟨hC, hD, hE, hBb⟩)
    clear hC hD hE hBb
    generalize (((W4.setCell ⟨w.heap.size + 1, 0, none⟩ (.int .i64 0)).setCell ⟨w.heap.size + 1, 1, none⟩ (.int .i64 0)).setCell ⟨w.heap.size + 1, 2, none⟩ (.slice none 0 0)) = W5 at *
    have hs5 : w.heap.size + 3 ≤ W5.heap.size := by have := (Array.getElem?_eq_some_iff.1 H5.out.2.2.1).1; omega
    have c0 := blk_cell H5.out.1 0; have c1 := blk_cell H5.out.1 1
    have d0 := blk_cell H5.out.2.1 0; have d1 := blk_cell H5.out.2.1 1; have d2 := blk_cell H5.out.2.1 2
    simp at c0 c1 d0 d1 d2
    go_region_with (first | (go_at_call 39; refine (without_any qn qc qb qo Q pa pn pc k _ ?_ hkn hq4 hqc hqm).mono ?_; (first | exact HM.out.1.grown H5.out.2.2.2 | exact (HM.out.1.grown H5.out.2.2.2).grown (Below.refl _ _).drew); rintro e W6 ⟨v, rfl, hV, hb6⟩; replace hb6 : Below W5.heap.size W5 W6 := (by first | exact hb6 | exact below_drew1 hb6); obtain ⟨va, vn, vc, vb, vo, rfl, hK, hv3⟩ := hV; have HV := Lib.hid (show _ ∧ _ ∧ (0 < vn → vb = qb ∨ w.heap.size + 3 ≤ vb) from ⟨hK, hv3, fun h0 => (hv3.2.2.2 h0).imp id fun e => Nat.le_trans hs5 e⟩); clear hK hv3; have H6 := Lib.hid (show _ ∧ _ ∧ _ ∧ _ from ⟨blk_below H5.out.1 hb6 (Array.getElem?_eq_some_iff.1 H5.out.1).1, blk_below H5.out.2.1 hb6 (Array.getElem?_eq_some_iff.1 H5.out.2.1).1, blk_below H5.out.2.2.1 hb6 (Array.getElem?_eq_some_iff.1 H5.out.2.2.1).1, below_after H5.out.2.2.2 hb6 H5.out.2.2.2.size⟩); clear hb6; have c0 := blk_cell H6.out.1 0; have c1 := blk_cell H6.out.1 1; have d0 := blk_cell H6.out.2.1 0; have d1 := blk_cell H6.out.2.1 1; have d2 := blk_cell H6.out.2.1 2; have g0 := blk_free H6.out.2.1 0; have g1 := blk_free H6.out.2.1 1; have g2 := blk_free H6.out.2.1 2; have e0 := blk_cell H6.out.2.2.1 0; have e1 := blk_cell H6.out.2.2.1 1; have f0 := blk_free H6.out.2.2.1 0; have f1 := blk_free H6.out.2.2.1 1; simp at c0 c1 d0 d1 d2 e0 e1))
    all_goals
      go_wp2
      have hD := boxK_set (u0 := .int .i64 0) (u1 := .int .i64 0) (u2 := .slice none 0 0) H6.out.2.1
      have hE0 := boxK_far (b := w.heap.size + 1) (u0 := .int .i64 0) (u1 := .int .i64 0) (u2 := .slice none 0 0) (q := w.heap.size + 1 + 1) (by omega) H6.out.2.2.1
      have hB0 := boxK_below (b := w.heap.size + 1) (u0 := .int .i64 0) (u1 := .int .i64 0) (u2 := .slice none 0 0) (show w.heap.size ≤ w.heap.size + 1 by omega) H6.out.2.2.2
      have hD1 := boxQ_far (b := w.heap.size + 1 + 1) (u0 := .slice va vn vc) (u1 := .slice pa pn pc) (q := w.heap.size + 1) (by omega) hD
      have hE := boxQ_set (u0 := .slice va vn vc) (u1 := .slice pa pn pc) hE0
      have hBe := boxQ_below (b := w.heap.size + 1 + 1) (u0 := .slice va vn vc) (u1 := .slice pa pn pc) (show w.heap.size ≤ w.heap.size + 1 + 1 by omega) hB0
      have d0' := blk_cell hD1 0; have d1' := blk_cell hD1 1; have d2' := blk_cell hD1 2
      have e0' := blk_cell hE 0; have e1' := blk_cell hE 1
      simp at d0' d1' d2' e0' e1'
      have hf1 : 0 < vn → vb ≠ w.heap.size + 1 := fun h0 => by
        rcases HV.out.2.2 h0 with e | e <;> omega
      have hf2 : 0 < vn → vb ≠ w.heap.size + 1 + 1 := fun h0 => by
        rcases HV.out.2.2 h0 with e | e <;> omega
      have hKe := ((((HV.out.1.far (p := w.heap.size + 1) (i := 0) (u := .int .i64 0) hf1).far (p := w.heap.size + 1) (i := 1) (u := .int .i64 0) hf1).far (p := w.heap.size + 1) (i := 2) (u := .slice none 0 0) hf1).far (p := w.heap.size + 1 + 1) (i := 0) (u := .slice va vn vc) hf2).far (p := w.heap.size + 1 + 1) (i := 1) (u := .slice pa pn pc) hf2
      exact bodyPost_ret (v := .tuple #[.agg #[.int .i64 0, .int .i64 0, .slice none 0 0], .agg #[.slice va vn vc, .slice pa pn pc], .int .i64 0]) (by simp [results, Try.results20, go_sem, d0', d1', d2', e0', e1']) rfl (.inr ⟨k, _, rfl, HN.out.2, HN.out.1, by rw [HK.out, delK_t HI.out], ⟨va, vn, vc, vb, vo, rfl, hKe, HV.out.2.1.1, HV.out.2.1.2.1, HV.out.2.1.2.2.1, fun h0 => (HV.out.2.2 h0).imp id fun e => by omega⟩, hBe⟩)
  · have HI := Lib.hid hin
    clear hin
    refine wp_region_quiet_below (by kernel_rfl) (by kernel_rfl) ?_
    repeat (go_big_quiet_step (((first | (go_at_call 34; with_reducible exact Calls.regrown_of (pair_any m0 m1 _)) | (go_at_call 38; with_reducible exact Calls.regrown_of (contains_f pa pn pc pb po A (prQ m0 m1) _ (hA2.out.grown (below_regrown W2 _ _)) hpn HI.out))))))
    refine wpQuiet_nil ?_
    intro W5 hb'
    have hb := of_regrown hb'
    clear hb'
    clear c0 c1 d0 d1 d2
    have H5 := Lib.hid (show _ ∧ _ ∧ _ ∧ _ from ⟨blk_below H2.out.1 hb (Array.getElem?_eq_some_iff.1 H2.out.1).1, blk_below H2.out.2.1 hb (Array.getElem?_eq_some_iff.1 H2.out.2.1).1, blk_below H2.out.2.2.1 hb (Array.getElem?_eq_some_iff.1 H2.out.2.2.1).1, below_after H2.out.2.2.2 hb H2.out.2.2.2.size⟩)
    clear hb
    have hs5 : w.heap.size + 3 ≤ W5.heap.size := by have := (Array.getElem?_eq_some_iff.1 H5.out.2.2.1).1; omega
    have c0 := blk_cell H5.out.1 0; have c1 := blk_cell H5.out.1 1
    have d0 := blk_cell H5.out.2.1 0; have d1 := blk_cell H5.out.2.1 1; have d2 := blk_cell H5.out.2.1 2
    simp at c0 c1 d0 d1 d2
    go_upto_region 7 with fail
    go_region_with (first | (go_at_call 39; refine (without_any qn qc qb qo Q pa pn pc k _ ?_ hkn hq4 hqc hqm).mono ?_; (first | exact HM.out.1.grown H5.out.2.2.2 | exact (HM.out.1.grown H5.out.2.2.2).grown (Below.refl _ _).drew); rintro e W6 ⟨v, rfl, hV, hb6⟩; replace hb6 : Below W5.heap.size W5 W6 := (by first | exact hb6 | exact below_drew1 hb6); obtain ⟨va, vn, vc, vb, vo, rfl, hK, hv3⟩ := hV; have HV := Lib.hid (show _ ∧ _ ∧ (0 < vn → vb = qb ∨ w.heap.size + 3 ≤ vb) from ⟨hK, hv3, fun h0 => (hv3.2.2.2 h0).imp id fun e => Nat.le_trans hs5 e⟩); clear hK hv3; have H6 := Lib.hid (show _ ∧ _ ∧ _ ∧ _ from ⟨blk_below H5.out.1 hb6 (Array.getElem?_eq_some_iff.1 H5.out.1).1, blk_below H5.out.2.1 hb6 (Array.getElem?_eq_some_iff.1 H5.out.2.1).1, blk_below H5.out.2.2.1 hb6 (Array.getElem?_eq_some_iff.1 H5.out.2.2.1).1, below_after H5.out.2.2.2 hb6 H5.out.2.2.2.size⟩); clear hb6; have c0 := blk_cell H6.out.1 0; have c1 := blk_cell H6.out.1 1; have d0 := blk_cell H6.out.2.1 0; have d1 := blk_cell H6.out.2.1 1; have d2 := blk_cell H6.out.2.1 2; have g0 := blk_free H6.out.2.1 0; have g1 := blk_free H6.out.2.1 1; have g2 := blk_free H6.out.2.1 2; have e0 := blk_cell H6.out.2.2.1 0; have e1 := blk_cell H6.out.2.2.1 1; have f0 := blk_free H6.out.2.2.1 0; have f1 := blk_free H6.out.2.2.1 1; simp at c0 c1 d0 d1 d2 e0 e1))
    all_goals
      go_wp2
      have hD := boxK_set (u0 := .int .i64 m0) (u1 := .int .i64 m1) (u2 := .slice ma mn mc) H6.out.2.1
      have hE0 := boxK_far (b := w.heap.size + 1) (u0 := .int .i64 m0) (u1 := .int .i64 m1) (u2 := .slice ma mn mc) (q := w.heap.size + 1 + 1) (by omega) H6.out.2.2.1
      have hB0 := boxK_below (b := w.heap.size + 1) (u0 := .int .i64 m0) (u1 := .int .i64 m1) (u2 := .slice ma mn mc) (show w.heap.size ≤ w.heap.size + 1 by omega) H6.out.2.2.2
      have hD1 := boxQ_far (b := w.heap.size + 1 + 1) (u0 := .slice va vn vc) (u1 := .slice pa pn pc) (q := w.heap.size + 1) (by omega) hD
      have hE := boxQ_set (u0 := .slice va vn vc) (u1 := .slice pa pn pc) hE0
      have hBe := boxQ_below (b := w.heap.size + 1 + 1) (u0 := .slice va vn vc) (u1 := .slice pa pn pc) (show w.heap.size ≤ w.heap.size + 1 + 1 by omega) hB0
      have d0' := blk_cell hD1 0; have d1' := blk_cell hD1 1; have d2' := blk_cell hD1 2
      have e0' := blk_cell hE 0; have e1' := blk_cell hE 1
      simp at d0' d1' d2' e0' e1'
      have hf1 : 0 < vn → vb ≠ w.heap.size + 1 := fun h0 => by
        rcases HV.out.2.2 h0 with e | e <;> omega
      have hf2 : 0 < vn → vb ≠ w.heap.size + 1 + 1 := fun h0 => by
        rcases HV.out.2.2 h0 with e | e <;> omega
      have hKe := ((((HV.out.1.far (p := w.heap.size + 1) (i := 0) (u := .int .i64 m0) hf1).far (p := w.heap.size + 1) (i := 1) (u := .int .i64 m1) hf1).far (p := w.heap.size + 1) (i := 2) (u := .slice ma mn mc) hf1).far (p := w.heap.size + 1 + 1) (i := 0) (u := .slice va vn vc) hf2).far (p := w.heap.size + 1 + 1) (i := 1) (u := .slice pa pn pc) hf2
      exact bodyPost_ret (v := .tuple #[.agg #[.int .i64 m0, .int .i64 m1, .slice ma mn mc], .agg #[.slice va vn vc, .slice pa pn pc], .int .i64 0]) (by simp [results, Try.results20, go_sem, d0', d1', d2', e0', e1']) rfl (.inr ⟨k, _, rfl, HN.out.2, HN.out.1, by rw [HK.out, delK_f HI.out], ⟨va, vn, vc, vb, vo, rfl, hKe, HV.out.2.1.1, HV.out.2.1.2.1, HV.out.2.1.2.2.1, fun h0 => (HV.out.2.2 h0).imp id fun e => by omega⟩, hBe⟩)
end Go.Proofs.Ythgbkdaimnejeaa
