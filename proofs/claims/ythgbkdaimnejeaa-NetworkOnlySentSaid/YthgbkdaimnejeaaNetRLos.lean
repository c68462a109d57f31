/- The reference's Lose (layer 6). -/
import Derived.Test.YthgbkdaimnejeaaNetRWo
namespace Go.Proofs.Ythgbkdaimnejeaa
open Go.ChangeShapes Go.WideShapes Go.ChangeAt Go.RowKit Go.Sort Go.Shelf

set_option maxRecDepth 100000 in
set_option maxHeartbeats 8000000 in
theorem rlose_any (qa : Option Addr) (qn qc qb qo : Nat) (Q : List Kt) (pa : Option Addr) (pn pc pb po : Nat) (A : List Qt) (i : Int) (w : World) (hQ : Ks w qa qn qb qo Q) (hA : Qs w pa pn pb po A) (hqn : qn ≤ 9223372036854775807) (hpn : pn ≤ 9223372036854775807) (hqc : qn ≤ qc) (hqm : qc ≤ 9223372036854775807) :
    Calls Try.prog 24 #[.agg #[.slice qa qn qc, .slice pa pn pc], .int .i64 i] w (LoseP qb Q A i (.slice pa pn pc) w) := by
  have HM := Lib.hid (show _ ∧ _ ∧ _ from ⟨hQ, hA, hQ.1⟩)
  clear hQ hA
  obtain ⟨W, hW⟩ : ∃ W, W = (w.alloc (.cells #[.slice qa qn qc, .slice pa pn pc] 25)).alloc (.cells #[.slice none 0 0, .slice none 0 0] 25) := ⟨_, rfl⟩
  have hB : Below w.heap.size w W := by rw [hW]; go_grown
  have g1 : W.heap[w.heap.size]? = some (.cells #[.slice qa qn qc, .slice pa pn pc] 25 (0, 0)) := by rw [hW]; exact blk_alloc (blk_new _ _) _
  have g2 : W.heap[w.heap.size + 1]? = some (.cells #[.slice none 0 0, .slice none 0 0] 25 (0, 0)) := by rw [hW]; have := blk_new (w.alloc (.cells #[.slice qa qn qc, .slice pa pn pc] 25)) (.cells #[.slice none 0 0, .slice none 0 0] 25); rwa [World.size_alloc] at this
  have H := Lib.hid (show _ ∧ _ ∧ _ from ⟨g1, g2, hB⟩)
  clear hB g1 g2
  have c0 := blk_cell H.out.1 0; have c1 := blk_cell H.out.1 1
  simp at c0 c1
  go_enter Try.func24, Try.ntmps24
  go_upto_region 1 with fail
  rw [← hW]
  clear hW
  go_wp2_with fail
  clear c0 c1
  refine (asked_any qa qn qc qb qo Q pa pn pc pb po A i W (HM.out.1.grown H.out.2.2) (HM.out.2.1.grown H.out.2.2) hqn hpn).mono ?_
  rintro e W1 ⟨rfl, hb⟩
  have H1 := Lib.hid (show _ ∧ _ ∧ _ from ⟨blk_below H.out.1 hb (Array.getElem?_eq_some_iff.1 H.out.1).1, blk_below H.out.2.1 hb (Array.getElem?_eq_some_iff.1 H.out.2.1).1, below_after H.out.2.2 hb H.out.2.2.size⟩)
  clear hb
  by_cases h0 : askC Q A i = 0
  case neg =>
    obtain ⟨c, hc⟩ : ∃ c, c = askC Q A i := ⟨_, rfl⟩
    rw [← hc] at h0 ⊢
    have HC := Lib.hid (show _ ∧ _ from ⟨hc, h0⟩)
    have zc : (c == 0) = false := by simpa using h0
    have zc' : (c != 0) = true := by simpa using h0
    clear hc h0
    have e0 := blk_cell H1.out.2.1 0; have e1 := blk_cell H1.out.2.1 1; have f0 := blk_free H1.out.2.1 0; have f1 := blk_free H1.out.2.1 1
    simp at e0 e1
    go_wp2
    have hE := boxQ_set (u0 := .slice none 0 0) (u1 := .slice none 0 0) H1.out.2.1
    have hBe := (H1.out.2.2.setCell (p := ⟨w.heap.size + 1, 0, none⟩) (show w.heap.size ≤ w.heap.size + 1 by omega) (.slice none 0 0)).setCell (p := ⟨w.heap.size + 1, 1, none⟩) (show w.heap.size ≤ w.heap.size + 1 by omega) (.slice none 0 0)
    have e0' := blk_cell hE 0; have e1' := blk_cell hE 1
    simp at e0' e1'
    exact bodyPost_ret (v := .tuple #[.agg #[.slice none 0 0, .slice none 0 0], .int .i64 c]) (by simp [results, Try.results24, go_sem, e0', e1']) rfl (.inl ⟨by rw [← HC.out.1]; exact HC.out.2, by rw [← HC.out.1], hBe⟩)
  obtain ⟨hN, hi0, hi1⟩ := askC_zero h0
  rw [h0]
  clear h0
  obtain ⟨k, rfl⟩ : ∃ k : Nat, i = k := ⟨i.toNat, by omega⟩
  rw [HM.out.2.2] at hi1
  have hq4 : qn ≤ 4096 := by rw [← HM.out.2.2]; exact hN.1
  have HN := Lib.hid (show _ ∧ _ from ⟨hN, show k < Q.length from by rw [HM.out.2.2]; omega⟩)
  clear hN
  obtain ⟨rfl, hbw⟩ := HM.out.1.2.1 (by omega)
  have c0 := blk_cell H1.out.1 0; have c1 := blk_cell H1.out.1 1
  simp at c0 c1
  go_wp2_with fail
  clear c0 c1
  refine (rwithout_any qn qc qb qo Q pa pn pc k W1 (HM.out.1.grown H1.out.2.2) (by omega) hq4 hqc hqm).mono ?_
  rintro e W2 ⟨v, rfl, hV, hb⟩
  obtain ⟨va, vn, vc, vb, vo, rfl, hK, hv3⟩ := hV
  have HV := Lib.hid (show _ ∧ _ from ⟨hK, hv3⟩)
  clear hK hv3
  have H2 := Lib.hid (show _ ∧ _ ∧ _ from ⟨blk_below H1.out.1 hb (Array.getElem?_eq_some_iff.1 H1.out.1).1, blk_below H1.out.2.1 hb (Array.getElem?_eq_some_iff.1 H1.out.2.1).1, below_after H1.out.2.2 hb H1.out.2.2.size⟩)
  clear hb
  have e0 := blk_cell H2.out.2.1 0; have e1 := blk_cell H2.out.2.1 1; have f0 := blk_free H2.out.2.1 0; have f1 := blk_free H2.out.2.1 1
  simp at e0 e1
  go_wp2
  have hE := boxQ_set (u0 := .slice va vn vc) (u1 := .slice pa pn pc) H2.out.2.1
  have hBe := (H2.out.2.2.setCell (p := ⟨w.heap.size + 1, 0, none⟩) (show w.heap.size ≤ w.heap.size + 1 by omega) (.slice va vn vc)).setCell (p := ⟨w.heap.size + 1, 1, none⟩) (show w.heap.size ≤ w.heap.size + 1 by omega) (.slice pa pn pc)
  have e0' := blk_cell hE 0; have e1' := blk_cell hE 1
  simp at e0' e1'
  have hs1 := (Array.getElem?_eq_some_iff.1 H1.out.2.1).1
  have hfar : 0 < vn → vb ≠ w.heap.size + 1 := fun h0 => by
    rcases HV.out.2.2.2.2 h0 with e | e <;> omega
  have hKe := (HV.out.1.far (p := w.heap.size + 1) (i := 0) (u := .slice va vn vc) hfar).far (p := w.heap.size + 1) (i := 1) (u := .slice pa pn pc) hfar
  exact bodyPost_ret (v := .tuple #[.agg #[.slice va vn vc, .slice pa pn pc], .int .i64 0]) (by simp [results, Try.results24, go_sem, e0', e1']) rfl (.inr ⟨k, _, rfl, HN.out.2, HN.out.1, rfl, ⟨va, vn, vc, vb, vo, rfl, hKe, HV.out.2.1, HV.out.2.2.1, HV.out.2.2.2.1, fun h0 => (HV.out.2.2.2.2 h0).imp id fun e => by omega⟩, hBe⟩)
end Go.Proofs.Ythgbkdaimnejeaa
