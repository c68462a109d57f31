/- Send (layer 6). -/
import Derived.Test.YthgbkdaimnejeaaNetEnq
namespace Go.Proofs.Ythgbkdaimnejeaa
open Go.ChangeShapes Go.WideShapes Go.ChangeAt Go.RowKit Go.Sort Go.Shelf

def SendP (Q : List Kt) (A : List Qt) (m : Kt) (pv : Value) (w : World) (e : Ending) (w' : World) : Prop :=
  (¬ (NetOk Q A ∧ okK m) ∧ e = .returned (.tuple #[.agg #[.slice none 0 0, .slice none 0 0], .int .i64 60]) ∧ Below w.heap.size w w') ∨
  ((NetOk Q A ∧ okK m) ∧ EnqP Q m pv w e w')
set_option maxRecDepth 100000 in
set_option maxHeartbeats 8000000 in
theorem send_any (qa : Option Addr) (qn qc qb qo : Nat) (Q : List Kt) (pa : Option Addr) (pn pc pb po : Nat) (A : List Qt) (m : Kt) (w : World) (hQ : Ks w qa qn qb qo Q) (hA : Qs w pa pn pb po A) (hqn : qn ≤ 9223372036854775807) (hpn : pn ≤ 9223372036854775807) (hqc : qn ≤ qc) (hqm : qc ≤ 9223372036854775807) (hz : qa = none → qc = 0) :
    Calls Try.prog 11 #[.agg #[.slice qa qn qc, .slice pa pn pc], vK m] w (SendP Q A m (.slice pa pn pc) w) := by
  have HM := Lib.hid (show _ ∧ _ ∧ _ ∧ _ from ⟨hQ, hA, hQ.1, hz⟩)
  clear hQ hA hz
  obtain ⟨m0, m1, ma, mn, mc⟩ := m
  dsimp only [vK]
  obtain ⟨W, hW⟩ : ∃ W, W = ((w.alloc (.cells #[.slice qa qn qc, .slice pa pn pc] 25)).alloc (.cells #[.int .i64 m0, .int .i64 m1, .slice ma mn mc] 28)).alloc (.cells #[.slice none 0 0, .slice none 0 0] 25) := ⟨_, rfl⟩
  have hB : Below w.heap.size w W := by rw [hW]; go_grown
  have g1 : W.heap[w.heap.size]? = some (.cells #[.slice qa qn qc, .slice pa pn pc] 25 (0, 0)) := by rw [hW]; exact blk_alloc (blk_alloc (blk_new _ _) _) _
  have g2 : W.heap[w.heap.size + 1]? = some (.cells #[.int .i64 m0, .int .i64 m1, .slice ma mn mc] 28 (0, 0)) := by rw [hW]; have := blk_new (w.alloc (.cells #[.slice qa qn qc, .slice pa pn pc] 25)) (.cells #[.int .i64 m0, .int .i64 m1, .slice ma mn mc] 28); rw [World.size_alloc] at this; exact blk_alloc this _
  have g3 : W.heap[w.heap.size + 1 + 1]? = some (.cells #[.slice none 0 0, .slice none 0 0] 25 (0, 0)) := by rw [hW]; have := blk_new ((w.alloc (.cells #[.slice qa qn qc, .slice pa pn pc] 25)).alloc (.cells #[.int .i64 m0, .int .i64 m1, .slice ma mn mc] 28)) (.cells #[.slice none 0 0, .slice none 0 0] 25); rw [World.size_alloc, World.size_alloc] at this; exact this
  have H := Lib.hid (show _ ∧ _ ∧ _ ∧ _ from ⟨g1, g2, g3, hB⟩)
  clear hB g1 g2 g3
  have c0 := blk_cell H.out.1 0; have c1 := blk_cell H.out.1 1; have d0 := blk_cell H.out.2.1 0; have d1 := blk_cell H.out.2.1 1; have d2 := blk_cell H.out.2.1 2
  simp at c0 c1 d0 d1 d2
  go_enter Try.func11, Try.ntmps11
  go_upto_region 1 with fail
  rw [← hW]
  clear hW
  go_wp2_with fail
  clear c0 c1 d0 d1 d2
  refine (check_any qa qn qc qb qo Q pa pn pc pb po A W (HM.out.1.grown H.out.2.2.2) (HM.out.2.1.grown H.out.2.2.2) hqn hpn).mono ?_
  rintro e W1 ⟨rfl, hb⟩
  have H1 := Lib.hid (show _ ∧ _ ∧ _ ∧ _ from ⟨blk_below H.out.1 hb (Array.getElem?_eq_some_iff.1 H.out.1).1, blk_below H.out.2.1 hb (Array.getElem?_eq_some_iff.1 H.out.2.1).1, blk_below H.out.2.2.1 hb (Array.getElem?_eq_some_iff.1 H.out.2.2.1).1, below_after H.out.2.2.2 hb H.out.2.2.2.size⟩)
  clear hb
  by_cases hN : NetOk Q A
  case neg =>
    have HN := Lib.hid hN
    rw [chkN_no hN]
    clear hN
    have e0 := blk_cell H1.out.2.2.1 0; have e1 := blk_cell H1.out.2.2.1 1; have f0 := blk_free H1.out.2.2.1 0; have f1 := blk_free H1.out.2.2.1 1
    simp at e0 e1
    go_wp2
    have hE := boxQ_set (u0 := .slice none 0 0) (u1 := .slice none 0 0) H1.out.2.2.1
    have hBe := (H1.out.2.2.2.setCell (p := ⟨w.heap.size + 1 + 1, 0, none⟩) (show w.heap.size ≤ w.heap.size + 1 + 1 by omega) (.slice none 0 0)).setCell (p := ⟨w.heap.size + 1 + 1, 1, none⟩) (show w.heap.size ≤ w.heap.size + 1 + 1 by omega) (.slice none 0 0)
    have e0' := blk_cell hE 0; have e1' := blk_cell hE 1
    simp at e0' e1'
    exact bodyPost_ret (v := .tuple #[.agg #[.slice none 0 0, .slice none 0 0], .int .i64 60]) (by simp [results, Try.results11, go_sem, e0', e1']) rfl (.inl ⟨fun g => HN.out g.1, rfl, hBe⟩)
  have HN := Lib.hid hN
  have hq4 : qn ≤ 4096 := by rw [← HM.out.2.2.1]; exact hN.1
  rw [chkN_yes hN]
  clear hN
  have c0 := blk_cell H1.out.1 0; have c1 := blk_cell H1.out.1 1; have d0 := blk_cell H1.out.2.1 0; have d1 := blk_cell H1.out.2.1 1; have d2 := blk_cell H1.out.2.1 2
  simp at c0 c1 d0 d1 d2
  go_wp2_with fail
  clear c0 c1 d0 d1 d2
  by_cases hv : okK (m0, m1, ma, mn, mc)
  case neg =>
    refine (valid_f (m0, m1, ma, mn, mc) W1 hv).mono ?_
    rintro e W2 ⟨rfl, hb⟩
    have H2 := Lib.hid (show _ ∧ _ ∧ _ ∧ _ from ⟨blk_below H1.out.1 hb (Array.getElem?_eq_some_iff.1 H1.out.1).1, blk_below H1.out.2.1 hb (Array.getElem?_eq_some_iff.1 H1.out.2.1).1, blk_below H1.out.2.2.1 hb (Array.getElem?_eq_some_iff.1 H1.out.2.2.1).1, below_after H1.out.2.2.2 hb H1.out.2.2.2.size⟩)
    clear hb
    have HV := Lib.hid hv
    clear hv
    have e0 := blk_cell H2.out.2.2.1 0; have e1 := blk_cell H2.out.2.2.1 1; have f0 := blk_free H2.out.2.2.1 0; have f1 := blk_free H2.out.2.2.1 1
    simp at e0 e1
    go_wp2
    have hE := boxQ_set (u0 := .slice none 0 0) (u1 := .slice none 0 0) H2.out.2.2.1
    have hBe := (H2.out.2.2.2.setCell (p := ⟨w.heap.size + 1 + 1, 0, none⟩) (show w.heap.size ≤ w.heap.size + 1 + 1 by omega) (.slice none 0 0)).setCell (p := ⟨w.heap.size + 1 + 1, 1, none⟩) (show w.heap.size ≤ w.heap.size + 1 + 1 by omega) (.slice none 0 0)
    have e0' := blk_cell hE 0; have e1' := blk_cell hE 1
    simp at e0' e1'
    exact bodyPost_ret (v := .tuple #[.agg #[.slice none 0 0, .slice none 0 0], .int .i64 60]) (by simp [results, Try.results11, go_sem, e0', e1']) rfl (.inl ⟨fun g => HV.out g.2, rfl, hBe⟩)
  refine (valid_t (m0, m1, ma, mn, mc) W1 hv).mono ?_
  rintro e W2 ⟨rfl, hb⟩
  have H2 := Lib.hid (show _ ∧ _ ∧ _ ∧ _ from ⟨blk_below H1.out.1 hb (Array.getElem?_eq_some_iff.1 H1.out.1).1, blk_below H1.out.2.1 hb (Array.getElem?_eq_some_iff.1 H1.out.2.1).1, blk_below H1.out.2.2.1 hb (Array.getElem?_eq_some_iff.1 H1.out.2.2.1).1, below_after H1.out.2.2.2 hb H1.out.2.2.2.size⟩)
  clear hb
  have HV := Lib.hid hv
  clear hv
  have c0 := blk_cell H2.out.1 0; have c1 := blk_cell H2.out.1 1; have d0 := blk_cell H2.out.2.1 0; have d1 := blk_cell H2.out.2.1 1; have d2 := blk_cell H2.out.2.1 2
  simp at c0 c1 d0 d1 d2
  go_wp2_with fail
  clear c0 c1 d0 d1 d2
  refine (enqueue_any qa qn qc qb qo Q pa pn pc (m0, m1, ma, mn, mc) W2 (HM.out.1.grown H2.out.2.2.2) hq4 hqc hqm HM.out.2.2.2).mono ?_
  rintro e W3 (⟨hl, rfl, hb⟩ | ⟨hl, v, rfl, hO, hb⟩)
  · have HL := Lib.hid hl
    clear hl
    have H3 := Lib.hid (show _ ∧ _ ∧ _ ∧ _ from ⟨blk_below H2.out.1 hb (Array.getElem?_eq_some_iff.1 H2.out.1).1, blk_below H2.out.2.1 hb (Array.getElem?_eq_some_iff.1 H2.out.2.1).1, blk_below H2.out.2.2.1 hb (Array.getElem?_eq_some_iff.1 H2.out.2.2.1).1, below_after H2.out.2.2.2 hb H2.out.2.2.2.size⟩)
    clear hb
    have e0 := blk_cell H3.out.2.2.1 0; have e1 := blk_cell H3.out.2.2.1 1; have f0 := blk_free H3.out.2.2.1 0; have f1 := blk_free H3.out.2.2.1 1
    simp at e0 e1
    go_wp2
    have hE := boxQ_set (u0 := .slice none 0 0) (u1 := .slice none 0 0) H3.out.2.2.1
    have hBe := (H3.out.2.2.2.setCell (p := ⟨w.heap.size + 1 + 1, 0, none⟩) (show w.heap.size ≤ w.heap.size + 1 + 1 by omega) (.slice none 0 0)).setCell (p := ⟨w.heap.size + 1 + 1, 1, none⟩) (show w.heap.size ≤ w.heap.size + 1 + 1 by omega) (.slice none 0 0)
    have e0' := blk_cell hE 0; have e1' := blk_cell hE 1
    simp at e0' e1'
    exact bodyPost_ret (v := .tuple #[.agg #[.slice none 0 0, .slice none 0 0], .int .i64 2]) (by simp [results, Try.results11, go_sem, e0', e1']) rfl (.inr ⟨⟨HN.out, HV.out⟩, .inl ⟨HL.out, rfl, hBe⟩⟩)
  · have HL := Lib.hid hl
    clear hl
    obtain ⟨va, vb, vc, rfl, -⟩ := hO.s
    have hs2 : w.heap.size + 3 ≤ W2.heap.size := by have := (Array.getElem?_eq_some_iff.1 H2.out.2.2.1).1; omega
    have HO := Lib.hid (hO.mono hs2)
    clear hO hs2
    generalize hgl : (Q ++ [(m0, m1, ma, mn, mc)]).length = L at *
    clear hgl
    have H3 := Lib.hid (show _ ∧ _ ∧ _ ∧ _ from ⟨blk_below H2.out.1 hb (Array.getElem?_eq_some_iff.1 H2.out.1).1, blk_below H2.out.2.1 hb (Array.getElem?_eq_some_iff.1 H2.out.2.1).1, blk_below H2.out.2.2.1 hb (Array.getElem?_eq_some_iff.1 H2.out.2.2.1).1, below_after H2.out.2.2.2 hb H2.out.2.2.2.size⟩)
    clear hb
    have e0 := blk_cell H3.out.2.2.1 0; have e1 := blk_cell H3.out.2.2.1 1; have f0 := blk_free H3.out.2.2.1 0; have f1 := blk_free H3.out.2.2.1 1
    simp at e0 e1
    go_wp2
    have hE := boxQ_set (u0 := .slice va L vc) (u1 := .slice pa pn pc) H3.out.2.2.1
    have hBe := (H3.out.2.2.2.setCell (p := ⟨w.heap.size + 1 + 1, 0, none⟩) (show w.heap.size ≤ w.heap.size + 1 + 1 by omega) (.slice va L vc)).setCell (p := ⟨w.heap.size + 1 + 1, 1, none⟩) (show w.heap.size ≤ w.heap.size + 1 + 1 by omega) (.slice pa pn pc)
    have e0' := blk_cell hE 0; have e1' := blk_cell hE 1
    simp at e0' e1'
    have hOe := (HO.out.far (p := w.heap.size + 1 + 1) (i := 0) (u := .slice va L vc) (by omega)).far (p := w.heap.size + 1 + 1) (i := 1) (u := .slice pa pn pc) (by omega)
    exact bodyPost_ret (v := .tuple #[.agg #[.slice va L vc, .slice pa pn pc], .int .i64 0]) (by simp [results, Try.results11, go_sem, e0', e1']) rfl (.inr ⟨⟨HN.out, HV.out⟩, .inr ⟨HL.out, _, rfl, hOe.mono (by omega), hBe⟩⟩)
end Go.Proofs.Ythgbkdaimnejeaa
