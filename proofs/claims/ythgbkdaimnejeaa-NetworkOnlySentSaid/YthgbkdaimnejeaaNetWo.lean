/- without (layer 6). -/
import Derived.Test.YthgbkdaimnejeaaNetSend
import Derived.BigRegion
import Derived.Deep.RegionLaw
namespace Go.Proofs.Ythgbkdaimnejeaa
open Go.ChangeShapes Go.WideShapes Go.ChangeAt Go.RowKit Go.Sort Go.Shelf

theorem ks_drop {w : World} {n b off : Nat} {l : List Kt} (h : Ks w (some ⟨b, off, none⟩) n b off l) (k : Nat) (hk : k < n) : Ks w (some ⟨b, off + k * 3, none⟩) (n - k) b (off + k * 3) (l.drop k) := by
  obtain ⟨b3, o3, h1, _⟩ := h.post (Nat.le_of_lt hk) (Nat.le_refl n) (fun e => by cases e)
  obtain ⟨e, _⟩ := h1.2.1 (by omega)
  rw [if_neg (by omega)] at h1 e
  rw [e] at h1
  replace e : some (Addr.add ⟨b, off, none⟩ (k * 3)) = some ⟨b3, o3, none⟩ := e
  rw [Go.WideShapes.add_plain] at e
  cases e
  exact h1
/-- A slice of packets, as an answer. -/
def KsV (w : World) (B q : Nat) (v : Value) (l : List Kt) : Prop := ∃ a n c b off, v = .slice a n c ∧ Ks w a n b off l ∧ (a = none → c = 0) ∧ n ≤ c ∧ c ≤ 9223372036854775807 ∧ (0 < n → b = q ∨ B ≤ b)
set_option maxRecDepth 100000 in
set_option maxHeartbeats 8000000 in
theorem without_any (qn qc qb qo : Nat) (Q : List Kt) (pa : Option Addr) (pn pc : Nat) (i : Nat) (w : World) (hQ : Ks w (some ⟨qb, qo, none⟩) qn qb qo Q) (hi : i < qn) (hqn : qn ≤ 4096) (hqc : qn ≤ qc) (hqm : qc ≤ 9223372036854775807) :
    Calls Try.prog 39 #[.agg #[.slice (some ⟨qb, qo, none⟩) qn qc, .slice pa pn pc], .int .i64 i] w fun e w' => ∃ v, e = .returned (.agg #[v, .slice pa pn pc]) ∧ KsV w' w.heap.size qb v (Q.take i ++ Q.drop (i + 1)) ∧ Below w.heap.size w w' := by
  obtain ⟨J, hJ⟩ : ∃ J : Nat, J = i + 1 := ⟨_, rfl⟩
  rw [← hJ]
  have HM := Lib.hid (show _ ∧ _ from ⟨hQ, hQ.1⟩)
  clear hQ
  obtain ⟨W, hW⟩ : ∃ W, W = (w.alloc (.cells #[.slice (some ⟨qb, qo, none⟩) qn qc, .slice pa pn pc] 25)).alloc (.cells #[.slice none 0 0, .slice none 0 0] 25) := ⟨_, rfl⟩
  have hB : Below w.heap.size w W := by rw [hW]; go_grown
  have g1 : W.heap[w.heap.size]? = some (.cells #[.slice (some ⟨qb, qo, none⟩) qn qc, .slice pa pn pc] 25 (0, 0)) := by rw [hW]; exact blk_alloc (blk_new _ _) _
  have g2 : W.heap[w.heap.size + 1]? = some (.cells #[.slice none 0 0, .slice none 0 0] 25 (0, 0)) := by rw [hW]; have := blk_new (w.alloc (.cells #[.slice (some ⟨qb, qo, none⟩) qn qc, .slice pa pn pc] 25)) (.cells #[.slice none 0 0, .slice none 0 0] 25); rwa [World.size_alloc] at this
  have HT := Lib.hid (show _ ∧ _ ∧ _ from ⟨g1, g2, hB⟩)
  have hl2 := (Array.getElem?_eq_some_iff.1 g2).1
  have c0 := blk_cell g1 0; have c1 := blk_cell g1 1; have f0 := blk_free g1 0
  simp at c0 c1
  clear hB g1 g2
  have HJ := Lib.hid hJ
  clear hJ
  go_enter Try.func39, Try.ntmps39
  go_upto_region 1 with fail
  rw [← hW]
  clear hW
  have hJ := HJ.out
  have hk1 : ¬ qc < i := by omega
  have hq1 : i ≤ qc := by omega
  have hq2 : i + 1 ≤ qn := by omega
  have hq3 : qn ≤ qc := by omega
  have hk2 : ¬ i < i := by omega
  have hk3 : ¬ qn < i + 1 := by omega
  have hk4 : ¬ qc < qn := by omega
  have hw : IntKind.i64.wrap ((i : Int) + 1) = (J : Int) := by rw [IntKind.wrap_i64]; omega
  have hJn : (J : Int) ≤ qn := by omega
  have hJ0 : (0 : Int) ≤ J := by omega
  clear hJ
  by_cases hlast : J < qn
  · have hne : ¬ qc = J := by omega
    have hsz : w.heap.size + 2 ≤ W.heap.size := by omega
    go_region_law (refine step_append_full rfl (.tmp 9) (.tmp 14) rfl (some ⟨qb, qo, none⟩) i qb qo (Q.take i) (by rfl) (((HM.out.1.grown HT.out.2.2).pre (by omega)).grown (by first | exact Below.refl _ _ | exact (Below.refl _ _).drew)) (some ⟨qb, qo + J * 3, none⟩) (qn - J) (qc - J) qb (qo + J * 3) (Q.drop J) (by rfl) ((ks_drop (HM.out.1.grown HT.out.2.2) J hlast).grown (by first | exact Below.refl _ _ | exact (Below.refl _ _).drew)) (by omega) (by omega) ?_; intro v7 W7 hO7 hB7; obtain ⟨va, vb, vc, rfl, hV, -, hvz, hvc, hvm⟩ := hO7.s; have hX1 := (show W7.heap[w.heap.size]? = some (.cells #[.slice (some ⟨qb, qo, none⟩) qn qc, .slice pa pn pc] 25 (0, 0)) from by first | exact blk_below HT.out.1 hB7 (by simp; omega) | exact blk_below (blk_drew HT.out.1) hB7 (by simp; omega)); have hX2 := (show W7.heap[w.heap.size + 1]? = some (.cells #[.slice none 0 0, .slice none 0 0] 25 (0, 0)) from by first | exact blk_below HT.out.2.1 hB7 (by simp; omega) | exact blk_below (blk_drew HT.out.2.1) hB7 (by simp; omega)); have p0 := blk_cell hX1 0; have p1 := blk_free hX1 0; simp at p0; have hO8 := hO7.mono (show w.heap.size + 2 ≤ _ from by simp; omega); have hBw := (show Below w.heap.size w W7 from below_after (by first | exact HT.out.2.2 | exact HT.out.2.2.drew) hB7 (by first | exact HT.out.2.2.size | exact HT.out.2.2.drew.size)); have HX := Lib.hid (show _ ∧ _ ∧ _ ∧ _ from ⟨hX1, hX2, hO8, hBw⟩); clear hX1 hX2 hO7 hB7 hO8 hBw hV hvz hvc hvm)
    clear c0 c1 f0 p0 p1
    all_goals
      obtain ⟨hx1, hx3, hxO, hxB⟩ := HX.out
      rw [show (Q.take i ++ Q.drop J).length = min i Q.length + (Q.length - J) from by simp] at hxO
      generalize min i Q.length + (Q.length - J) = L at *
      have hE1 := cells_setQ (i := 0) (v := .slice va L vc) hx1
      have hE3 := (Below.heap_setCell W7 ⟨w.heap.size, 0, none⟩ (.slice va L vc) (w.heap.size + 1) (show w.heap.size + 1 ≠ w.heap.size by omega)).trans hx3
      have hO1 := hxO.far (p := w.heap.size) (i := 0) (u := .slice va L vc) (by omega)
      have hB1 := hxB.setCell (p := ⟨w.heap.size, 0, none⟩) (Nat.le_refl _) (.slice va L vc)
      have HY := Lib.hid (show _ ∧ _ ∧ _ from ⟨hE3, hO1, hB1⟩)
      clear hx1 hx3 hxO hxB HX hO1 hB1
      generalize W7.setCell ⟨w.heap.size, 0, none⟩ (.slice va L vc) = W8 at *
      have c0 := blk_cell hE1 0; have c1 := blk_cell hE1 1
      have e0 := blk_cell hE3 0; have e1 := blk_cell hE3 1; have f0 := blk_free hE3 0; have f1 := blk_free hE3 1
      simp at c0 c1 e0 e1
      clear hE1 hE3 hw hJn hJ0 hne
      go_wp2
      have hE := boxQ_set (u0 := .slice va L vc) (u1 := .slice pa pn pc) HY.out.1
      have hBe := (HY.out.2.2.setCell (p := ⟨w.heap.size + 1, 0, none⟩) (show w.heap.size ≤ w.heap.size + 1 by omega) (.slice va L vc)).setCell (p := ⟨w.heap.size + 1, 1, none⟩) (show w.heap.size ≤ w.heap.size + 1 by omega) (.slice pa pn pc)
      have hOe := (HY.out.2.1.far (p := w.heap.size + 1) (i := 0) (u := .slice va L vc) (by omega)).far (p := w.heap.size + 1) (i := 1) (u := .slice pa pn pc) (by omega)
      have e0' := blk_cell hE 0; have e1' := blk_cell hE 1
      simp at e0' e1'
      exact bodyPost_ret (v := .agg #[.slice va L vc, .slice pa pn pc]) (by simp [results, Try.results39, go_sem, e0', e1']) rfl ⟨_, rfl, by
        obtain ⟨a', b', c', ev, hK, -, hz', hc', hm'⟩ := hOe.s
        unfold maxLen at hm'
        exact ⟨a', _, c', b', 0, ev, hK, hz', hc', by omega, fun hn0 => by
          obtain ⟨g, c3, ev3, hg⟩ := hOe.inBlock rfl hn0
          have h4 := (hK.2.1 hn0).1
          rw [ev3] at ev
          injection ev with ev4
          rw [h4] at ev4
          cases ev4
          exact .inr (by omega)⟩, hBe⟩
  · have hJq : qn - J = 0 := by omega
    have hp1 := blk_free HT.out.2.1 0
    by_cases hcj : qc = J
    · go_region
      clear c0 c1 f0 hp1
      have hE1 := blk_drew (cells_setQ (i := 0) (v := .slice (some ⟨qb, qo, none⟩) i i) HT.out.1)
      have hE3 := blk_drew ((Below.heap_setCell W ⟨w.heap.size, 0, none⟩ (.slice (some ⟨qb, qo, none⟩) i i) (w.heap.size + 1) (show w.heap.size + 1 ≠ w.heap.size by omega)).trans HT.out.2.1)
      have hB1 := (HT.out.2.2.setCell (p := ⟨w.heap.size, 0, none⟩) (Nat.le_refl _) (.slice (some ⟨qb, qo, none⟩) i i)).drew
      have HY := Lib.hid (show _ ∧ _ from ⟨hE3, hB1⟩)
      clear hB1
      generalize (W.setCell ⟨w.heap.size, 0, none⟩ (.slice (some ⟨qb, qo, none⟩) i i)).drew = W8 at *
      have c0 := blk_cell hE1 0; have c1 := blk_cell hE1 1
      have e0 := blk_cell hE3 0; have e1 := blk_cell hE3 1; have f0 := blk_free hE3 0; have f1 := blk_free hE3 1
      simp at c0 c1 e0 e1
      clear hE1 hE3 hw hJ0 hJq
      go_wp2
      have hE := boxQ_set (u0 := .slice (some ⟨qb, qo, none⟩) i i) (u1 := .slice pa pn pc) HY.out.1
      have hBe := (HY.out.2.setCell (p := ⟨w.heap.size + 1, 0, none⟩) (show w.heap.size ≤ w.heap.size + 1 by omega) (.slice (some ⟨qb, qo, none⟩) i i)).setCell (p := ⟨w.heap.size + 1, 1, none⟩) (show w.heap.size ≤ w.heap.size + 1 by omega) (.slice pa pn pc)
      have e0' := blk_cell hE 0; have e1' := blk_cell hE 1
      simp at e0' e1'
      exact bodyPost_ret (v := .agg #[.slice (some ⟨qb, qo, none⟩) i i, .slice pa pn pc]) (by simp [results, Try.results39, go_sem, e0', e1']) rfl ⟨_, rfl, by
        refine ⟨_, i, i, qb, qo, rfl, ?_, fun h => (by cases h), Nat.le_refl _, by omega, fun _ => .inl rfl⟩
        rw [List.drop_of_length_le (by rw [HM.out.2]; omega), List.append_nil]
        exact (HM.out.1.grown hBe).pre (by omega), hBe⟩
    go_region
    clear c0 c1 f0 hp1
    have hE1 := blk_drew (cells_setQ (i := 0) (v := .slice (some ⟨qb, qo, none⟩) i i) HT.out.1)
    have hE3 := blk_drew ((Below.heap_setCell W ⟨w.heap.size, 0, none⟩ (.slice (some ⟨qb, qo, none⟩) i i) (w.heap.size + 1) (show w.heap.size + 1 ≠ w.heap.size by omega)).trans HT.out.2.1)
    have hB1 := (HT.out.2.2.setCell (p := ⟨w.heap.size, 0, none⟩) (Nat.le_refl _) (.slice (some ⟨qb, qo, none⟩) i i)).drew
    have HY := Lib.hid (show _ ∧ _ from ⟨hE3, hB1⟩)
    clear hB1
    generalize (W.setCell ⟨w.heap.size, 0, none⟩ (.slice (some ⟨qb, qo, none⟩) i i)).drew = W8 at *
    have c0 := blk_cell hE1 0; have c1 := blk_cell hE1 1
    have e0 := blk_cell hE3 0; have e1 := blk_cell hE3 1; have f0 := blk_free hE3 0; have f1 := blk_free hE3 1
    simp at c0 c1 e0 e1
    clear hE1 hE3 hw hJ0 hJq
    go_wp2
    have hE := boxQ_set (u0 := .slice (some ⟨qb, qo, none⟩) i i) (u1 := .slice pa pn pc) HY.out.1
    have hBe := (HY.out.2.setCell (p := ⟨w.heap.size + 1, 0, none⟩) (show w.heap.size ≤ w.heap.size + 1 by omega) (.slice (some ⟨qb, qo, none⟩) i i)).setCell (p := ⟨w.heap.size + 1, 1, none⟩) (show w.heap.size ≤ w.heap.size + 1 by omega) (.slice pa pn pc)
    have e0' := blk_cell hE 0; have e1' := blk_cell hE 1
    simp at e0' e1'
    exact bodyPost_ret (v := .agg #[.slice (some ⟨qb, qo, none⟩) i i, .slice pa pn pc]) (by simp [results, Try.results39, go_sem, e0', e1']) rfl ⟨_, rfl, by
      refine ⟨_, i, i, qb, qo, rfl, ?_, fun h => (by cases h), Nat.le_refl _, by omega, fun _ => .inl rfl⟩
      rw [List.drop_of_length_le (by rw [HM.out.2]; omega), List.append_nil]
      exact (HM.out.1.grown hBe).pre (by omega), hBe⟩
end Go.Proofs.Ythgbkdaimnejeaa
