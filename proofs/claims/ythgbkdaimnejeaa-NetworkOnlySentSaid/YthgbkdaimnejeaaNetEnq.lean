/- enqueue (layer 6). -/
import Derived.Test.YthgbkdaimnejeaaNetApp
import Derived.Test.YthgbkdaimnejeaaHeld
import Derived.BigRegion
import Derived.Deep.RegionLaw
namespace Go.Proofs.Ythgbkdaimnejeaa
open Go.ChangeShapes Go.WideShapes Go.ChangeAt Go.RowKit Go.Sort Go.Shelf

theorem KsO.far {w : World} {B p i : Nat} {v u : Value} {l : List Kt} (h : KsO w B v l) (hp : p < B) : KsO (w.setCell ⟨p, i, none⟩ u) B v l := by
  refine ⟨h.1, ?_⟩
  rcases h.2 with h0 | ⟨g, cap, cur, h1, h2, h3, h4⟩
  · exact .inl h0
  · exact .inr ⟨g, cap, cur, h1, h2, (Below.heap_setCell w ⟨p, i, none⟩ u g (show g ≠ p by omega)).trans h3, h4⟩
def EnqP (Q : List Kt) (m : Kt) (pv : Value) (w : World) (e : Ending) (w' : World) : Prop :=
  (Q.length = 4096 ∧ e = .returned (.tuple #[.agg #[.slice none 0 0, .slice none 0 0], .int .i64 2]) ∧ Below w.heap.size w w') ∨
  (Q.length ≠ 4096 ∧ ∃ v, e = .returned (.tuple #[.agg #[v, pv], .int .i64 0]) ∧ KsO w' w.heap.size v (Q ++ [m]) ∧ Below w.heap.size w w')
set_option maxRecDepth 100000 in
set_option maxHeartbeats 8000000 in
theorem enqueue_any (qa : Option Addr) (qn qc qb qo : Nat) (Q : List Kt) (pa : Option Addr) (pn pc : Nat) (m : Kt) (w : World) (hQ : Ks w qa qn qb qo Q) (hqn : qn ≤ 4096) (hqc : qn ≤ qc) (hqm : qc ≤ 9223372036854775807) (hz : qa = none → qc = 0) :
    Calls Try.prog 29 #[.agg #[.slice qa qn qc, .slice pa pn pc], vK m] w (EnqP Q m (.slice pa pn pc) w) := by
  have HM := Lib.hid (show _ ∧ _ from ⟨hQ, hQ.1⟩)
  clear hQ
  obtain ⟨m0, m1, ma, mn, mc⟩ := m
  dsimp only [vK]
  obtain ⟨W, hW⟩ : ∃ W, W = ((w.alloc (.cells #[.slice qa qn qc, .slice pa pn pc] 25)).alloc (.cells #[.int .i64 m0, .int .i64 m1, .slice ma mn mc] 28)).alloc (.cells #[.slice none 0 0, .slice none 0 0] 25) := ⟨_, rfl⟩
  have hB : Below w.heap.size w W := by rw [hW]; go_grown
  have g1 : W.heap[w.heap.size]? = some (.cells #[.slice qa qn qc, .slice pa pn pc] 25 (0, 0)) := by rw [hW]; exact blk_alloc (blk_alloc (blk_new _ _) _) _
  have g2 : W.heap[w.heap.size + 1]? = some (.cells #[.int .i64 m0, .int .i64 m1, .slice ma mn mc] 28 (0, 0)) := by rw [hW]; have := blk_new (w.alloc (.cells #[.slice qa qn qc, .slice pa pn pc] 25)) (.cells #[.int .i64 m0, .int .i64 m1, .slice ma mn mc] 28); rw [World.size_alloc] at this; exact blk_alloc this _
  have g3 : W.heap[w.heap.size + 1 + 1]? = some (.cells #[.slice none 0 0, .slice none 0 0] 25 (0, 0)) := by rw [hW]; have := blk_new ((w.alloc (.cells #[.slice qa qn qc, .slice pa pn pc] 25)).alloc (.cells #[.int .i64 m0, .int .i64 m1, .slice ma mn mc] 28)) (.cells #[.slice none 0 0, .slice none 0 0] 25); rw [World.size_alloc, World.size_alloc] at this; exact this
  have d0 := blk_cell g1 0; have d1 := blk_cell g1 1
  simp at d0 d1
  have H := Lib.hid (show _ ∧ _ ∧ _ ∧ _ from ⟨g1, g2, g3, hB⟩)
  clear hB g1 g2 g3
  go_enter Try.func29, Try.ntmps29
  go_upto_region 1 with fail
  rw [← hW]
  clear hW
  by_cases hm : qn = 4096
  · have z : ((qn : Int) == 4096) = true := by simp; omega
    have HN := Lib.hid (show Q.length = 4096 from HM.out.2.trans hm)
    have e0 := blk_cell H.out.2.2.1 0; have e1 := blk_cell H.out.2.2.1 1
    have f0 := blk_free H.out.2.2.1 0; have f1 := blk_free H.out.2.2.1 1
    simp at e0 e1
    clear hm
    go_wp2
    have hE := boxQ_set (u0 := .slice none 0 0) (u1 := .slice none 0 0) H.out.2.2.1
    have hBe := (H.out.2.2.2.setCell (p := ⟨w.heap.size + 1 + 1, 0, none⟩) (show w.heap.size ≤ w.heap.size + 1 + 1 by omega) (.slice none 0 0)).setCell (p := ⟨w.heap.size + 1 + 1, 1, none⟩) (show w.heap.size ≤ w.heap.size + 1 + 1 by omega) (.slice none 0 0)
    have e0' := blk_cell hE 0; have e1' := blk_cell hE 1
    simp at e0' e1'
    exact bodyPost_ret (v := .tuple #[.agg #[.slice none 0 0, .slice none 0 0], .int .i64 2]) (by simp [results, Try.results29, go_sem, e0', e1']) rfl (.inl ⟨HN.out, rfl, hBe⟩)
  have z : ((qn : Int) == 4096) = false := by simp; omega
  go_upto_region 4 with fail
  clear d0 d1 z
  have HT := Lib.hid H.out
  have hl1 := (Array.getElem?_eq_some_iff.1 H.out.1).1
  have hl2 := (Array.getElem?_eq_some_iff.1 H.out.2.1).1
  have hl3 := (Array.getElem?_eq_some_iff.1 H.out.2.2.1).1
  clear H
  generalize W = WQ at *
  have hkc : ¬ qc < qn := by omega
  have hkk : ¬ qn < qn := by omega
  rcases qa with _ | ⟨ab, ao, af⟩
  · obtain rfl : qc = 0 := hz rfl
    obtain rfl : qn = 0 := by omega
    have c0 := blk_cell HT.out.1 0; have c1 := blk_cell HT.out.1 1
    have e0 := blk_cell HT.out.2.1 0; have e1 := blk_cell HT.out.2.1 1; have e2 := blk_cell HT.out.2.1 2
    have f0 := blk_free HT.out.1 0
    simp at c0 c1 e0 e1 e2
    have HL := Lib.hid (show Ks (WQ.alloc (.cells #[.int .i64 m0, .int .i64 m1, .slice ma mn mc] 28)) (some ⟨WQ.heap.size, 0, none⟩) 1 WQ.heap.size 0 [(m0, m1, ma, mn, mc)] from Ks.lit _ _ _ _ rfl (fun i hi => by cases (show i = 0 by omega); exact ⟨rfl, rfl, rfl⟩))
    go_region_law (refine step_append_full rfl (.tmp 17) (.tmp 19) rfl _ 0 qb qo Q (by rfl) (HM.out.1.grown (below_after HT.out.2.2.2 (by go_grown) HT.out.2.2.2.size)) (some ⟨WQ.heap.size, 0, none⟩) 1 1 WQ.heap.size 0 [(m0, m1, ma, mn, mc)] (by rfl) (by first | exact HL.out | exact HL.out.grown (Below.refl _ _).drew) (by omega) (by omega) ?_; intro v7 W7 hO7 hB7; obtain ⟨va, vb, vc, rfl, -⟩ := hO7.s; have hX1 := (show W7.heap[w.heap.size]? = some (.cells #[.slice none 0 0, .slice pa pn pc] 25 (0, 0)) from by first | exact blk_below (blk_alloc HT.out.1 _) hB7 (by simp; omega) | exact blk_below (blk_drew (blk_alloc HT.out.1 _)) hB7 (by simp; omega)); have hX3 := (show W7.heap[w.heap.size + 1 + 1]? = some (.cells #[.slice none 0 0, .slice none 0 0] 25 (0, 0)) from by first | exact blk_below (blk_alloc HT.out.2.2.1 _) hB7 (by simp; omega) | exact blk_below (blk_drew (blk_alloc HT.out.2.2.1 _)) hB7 (by simp; omega)); have p0 := blk_cell hX1 0; have p1 := blk_free hX1 0; simp at p0; have hO8 := hO7.mono (show w.heap.size + 3 ≤ _ from by simp; omega); have hBw := (show Below w.heap.size w W7 from below_after (by first | exact HT.out.2.2.2.alloc HT.out.2.2.2.size _ | exact (HT.out.2.2.2.alloc HT.out.2.2.2.size _).drew) hB7 (by first | exact (HT.out.2.2.2.alloc HT.out.2.2.2.size _).size | exact ((HT.out.2.2.2.alloc HT.out.2.2.2.size _).drew).size)); have HX := Lib.hid (show _ ∧ _ ∧ _ ∧ _ from ⟨hX1, hX3, hO8, hBw⟩); clear hX1 hX3 hO7 hB7 hO8 hBw)
    clear c0 c1 e0 e1 e2 f0 p0 p1
    all_goals
      have hx := HX.out
      rw [show (Q ++ [(m0, m1, ma, mn, mc)]).length = Q.length + 1 from by simp] at hx
      obtain ⟨hx1, hx3, hxO, hxB⟩ := hx
      generalize Q.length + 1 = L at *
      have hE1 := cells_setQ (i := 0) (v := .slice va L vc) hx1
      have hE3 := (Below.heap_setCell W7 ⟨w.heap.size, 0, none⟩ (.slice va L vc) (w.heap.size + 1 + 1) (show w.heap.size + 1 + 1 ≠ w.heap.size by omega)).trans hx3
      have hO1 := hxO.far (p := w.heap.size) (i := 0) (u := .slice va L vc) (by omega)
      have hB1 := hxB.setCell (p := ⟨w.heap.size, 0, none⟩) (Nat.le_refl _) (.slice va L vc)
      have HY := Lib.hid (show _ ∧ _ ∧ _ from ⟨hE3, hO1, hB1⟩)
      clear hx1 hx3 hxO hxB HX hO1 hB1
      generalize W7.setCell ⟨w.heap.size, 0, none⟩ (.slice va L vc) = W8 at *
      have c0 := blk_cell hE1 0; have c1 := blk_cell hE1 1
      have e0 := blk_cell hE3 0; have e1 := blk_cell hE3 1; have f0 := blk_free hE3 0; have f1 := blk_free hE3 1
      simp at c0 c1 e0 e1
      clear hE1 hE3
      go_wp2
      have hE := boxQ_set (u0 := .slice va L vc) (u1 := .slice pa pn pc) HY.out.1
      have hBe := (HY.out.2.2.setCell (p := ⟨w.heap.size + 1 + 1, 0, none⟩) (show w.heap.size ≤ w.heap.size + 1 + 1 by omega) (.slice va L vc)).setCell (p := ⟨w.heap.size + 1 + 1, 1, none⟩) (show w.heap.size ≤ w.heap.size + 1 + 1 by omega) (.slice pa pn pc)
      have hOe := (HY.out.2.1.far (p := w.heap.size + 1 + 1) (i := 0) (u := .slice va L vc) (by omega)).far (p := w.heap.size + 1 + 1) (i := 1) (u := .slice pa pn pc) (by omega)
      have e0' := blk_cell hE 0; have e1' := blk_cell hE 1
      simp at e0' e1'
      exact bodyPost_ret (v := .tuple #[.agg #[.slice va L vc, .slice pa pn pc], .int .i64 0]) (by simp [results, Try.results29, go_sem, e0', e1']) rfl (.inr ⟨by have := HM.out.2; omega, _, rfl, hOe.mono (by omega), hBe⟩)
  · skip
    have c0 := blk_cell HT.out.1 0; have c1 := blk_cell HT.out.1 1
    have e0 := blk_cell HT.out.2.1 0; have e1 := blk_cell HT.out.2.1 1; have e2 := blk_cell HT.out.2.1 2
    have f0 := blk_free HT.out.1 0
    simp at c0 c1 e0 e1 e2
    have HL := Lib.hid (show Ks (WQ.alloc (.cells #[.int .i64 m0, .int .i64 m1, .slice ma mn mc] 28)) (some ⟨WQ.heap.size, 0, none⟩) 1 WQ.heap.size 0 [(m0, m1, ma, mn, mc)] from Ks.lit _ _ _ _ rfl (fun i hi => by cases (show i = 0 by omega); exact ⟨rfl, rfl, rfl⟩))
    go_region_law (refine step_append_full rfl (.tmp 17) (.tmp 19) rfl _ qn qb qo Q (by rfl) (HM.out.1.grown (below_after HT.out.2.2.2 (by go_grown) HT.out.2.2.2.size)) (some ⟨WQ.heap.size, 0, none⟩) 1 1 WQ.heap.size 0 [(m0, m1, ma, mn, mc)] (by rfl) (by first | exact HL.out | exact HL.out.grown (Below.refl _ _).drew) (by omega) (by omega) ?_; intro v7 W7 hO7 hB7; obtain ⟨va, vb, vc, rfl, -⟩ := hO7.s; have hX1 := (show W7.heap[w.heap.size]? = some (.cells #[.slice (some ⟨ab, ao, af⟩) qn qc, .slice pa pn pc] 25 (0, 0)) from by first | exact blk_below (blk_alloc HT.out.1 _) hB7 (by simp; omega) | exact blk_below (blk_drew (blk_alloc HT.out.1 _)) hB7 (by simp; omega)); have hX3 := (show W7.heap[w.heap.size + 1 + 1]? = some (.cells #[.slice none 0 0, .slice none 0 0] 25 (0, 0)) from by first | exact blk_below (blk_alloc HT.out.2.2.1 _) hB7 (by simp; omega) | exact blk_below (blk_drew (blk_alloc HT.out.2.2.1 _)) hB7 (by simp; omega)); have p0 := blk_cell hX1 0; have p1 := blk_free hX1 0; simp at p0; have hO8 := hO7.mono (show w.heap.size + 3 ≤ _ from by simp; omega); have hBw := (show Below w.heap.size w W7 from below_after (by first | exact HT.out.2.2.2.alloc HT.out.2.2.2.size _ | exact (HT.out.2.2.2.alloc HT.out.2.2.2.size _).drew) hB7 (by first | exact (HT.out.2.2.2.alloc HT.out.2.2.2.size _).size | exact ((HT.out.2.2.2.alloc HT.out.2.2.2.size _).drew).size)); have HX := Lib.hid (show _ ∧ _ ∧ _ ∧ _ from ⟨hX1, hX3, hO8, hBw⟩); clear hX1 hX3 hO7 hB7 hO8 hBw)
    clear c0 c1 e0 e1 e2 f0 p0 p1
    all_goals
      have hx := HX.out
      rw [show (Q ++ [(m0, m1, ma, mn, mc)]).length = Q.length + 1 from by simp] at hx
      obtain ⟨hx1, hx3, hxO, hxB⟩ := hx
      generalize Q.length + 1 = L at *
      have hE1 := cells_setQ (i := 0) (v := .slice va L vc) hx1
      have hE3 := (Below.heap_setCell W7 ⟨w.heap.size, 0, none⟩ (.slice va L vc) (w.heap.size + 1 + 1) (show w.heap.size + 1 + 1 ≠ w.heap.size by omega)).trans hx3
      have hO1 := hxO.far (p := w.heap.size) (i := 0) (u := .slice va L vc) (by omega)
      have hB1 := hxB.setCell (p := ⟨w.heap.size, 0, none⟩) (Nat.le_refl _) (.slice va L vc)
      have HY := Lib.hid (show _ ∧ _ ∧ _ from ⟨hE3, hO1, hB1⟩)
      clear hx1 hx3 hxO hxB HX hO1 hB1
      generalize W7.setCell ⟨w.heap.size, 0, none⟩ (.slice va L vc) = W8 at *
      have c0 := blk_cell hE1 0; have c1 := blk_cell hE1 1
      have e0 := blk_cell hE3 0; have e1 := blk_cell hE3 1; have f0 := blk_free hE3 0; have f1 := blk_free hE3 1
      simp at c0 c1 e0 e1
      clear hE1 hE3
      go_wp2
      have hE := boxQ_set (u0 := .slice va L vc) (u1 := .slice pa pn pc) HY.out.1
      have hBe := (HY.out.2.2.setCell (p := ⟨w.heap.size + 1 + 1, 0, none⟩) (show w.heap.size ≤ w.heap.size + 1 + 1 by omega) (.slice va L vc)).setCell (p := ⟨w.heap.size + 1 + 1, 1, none⟩) (show w.heap.size ≤ w.heap.size + 1 + 1 by omega) (.slice pa pn pc)
      have hOe := (HY.out.2.1.far (p := w.heap.size + 1 + 1) (i := 0) (u := .slice va L vc) (by omega)).far (p := w.heap.size + 1 + 1) (i := 1) (u := .slice pa pn pc) (by omega)
      have e0' := blk_cell hE 0; have e1' := blk_cell hE 1
      simp at e0' e1'
      exact bodyPost_ret (v := .tuple #[.agg #[.slice va L vc, .slice pa pn pc], .int .i64 0]) (by simp [results, Try.results29, go_sem, e0', e1']) rfl (.inr ⟨by have := HM.out.2; omega, _, rfl, hOe.mono (by omega), hBe⟩)
end Go.Proofs.Ythgbkdaimnejeaa
