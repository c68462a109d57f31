/- The reference's Repeat (layer 6). -/
import Derived.Test.YthgbkdaimnejeaaNetRLos
namespace Go.Proofs.Ythgbkdaimnejeaa
open Go.ChangeShapes Go.WideShapes Go.ChangeAt Go.RowKit Go.Sort Go.Shelf

theorem rsend_l (qa : Option Addr) (qn qc qb qo : Nat) (Q : List Kt) (pa : Option Addr) (pn pc pb po : Nat) (A : List Qt) (m : Kt) (w : World) (hQ : Ks w qa qn qb qo Q) (hA : Qs w pa pn pb po A) (hqn : qn ≤ 9223372036854775807) (hpn : pn ≤ 9223372036854775807) (hz : qa = none → qc = 0) (hok : NetOk Q A ∧ okK m) (hl : Q.length = 4096) :
    Calls Try.prog 12 #[.agg #[.slice qa qn qc, .slice pa pn pc], vK m] w fun e w' => e = .returned (.tuple #[.agg #[.slice none 0 0, .slice none 0 0], .int .i64 2]) ∧ Below w.heap.size w w' :=
  (rsend_any qa qn qc qb qo Q pa pn pc pb po A m w hQ hA hqn hpn hz).mono fun e w' h => by
    rcases h with ⟨h, _⟩ | ⟨_, ⟨_, h1, h2⟩ | ⟨h, _⟩⟩
    · exact absurd hok h
    · exact ⟨h1, h2⟩
    · exact absurd hl h
theorem rsend_t (qa : Option Addr) (qn qc qb qo : Nat) (Q : List Kt) (pa : Option Addr) (pn pc pb po : Nat) (A : List Qt) (m : Kt) (w : World) (hQ : Ks w qa qn qb qo Q) (hA : Qs w pa pn pb po A) (hqn : qn ≤ 9223372036854775807) (hpn : pn ≤ 9223372036854775807) (hz : qa = none → qc = 0) (hok : NetOk Q A ∧ okK m) (hl : Q.length ≠ 4096) :
    Calls Try.prog 12 #[.agg #[.slice qa qn qc, .slice pa pn pc], vK m] w fun e w' => ∃ va vc, e = .returned (.tuple #[.agg #[.slice va (Q.length + 1) vc, .slice pa pn pc], .int .i64 0]) ∧ KsO w' w.heap.size (.slice va (Q.length + 1) vc) (Q ++ [m]) ∧ Below w.heap.size w w' :=
  (rsend_any qa qn qc qb qo Q pa pn pc pb po A m w hQ hA hqn hpn hz).mono fun e w' h => by
    rcases h with ⟨h, _⟩ | ⟨_, ⟨h, _⟩ | ⟨_, v, h1, h2, h3⟩⟩
    · exact absurd hok h
    · exact absurd h hl
    · obtain ⟨va, vb, vc, rfl, -⟩ := h2.s
      rw [List.length_append] at h1 h2
      exact ⟨va, vc, h1, h2, h3⟩
set_option maxRecDepth 100000 in
set_option maxHeartbeats 8000000 in
theorem rrepeat_any (qa : Option Addr) (qn qc qb qo : Nat) (Q : List Kt) (pa : Option Addr) (pn pc pb po : Nat) (A : List Qt) (i : Int) (w : World) (hQ : Ks w qa qn qb qo Q) (hA : Qs w pa pn pb po A) (hqn : qn ≤ 9223372036854775807) (hpn : pn ≤ 9223372036854775807) (hz : qa = none → qc = 0) :
    Calls Try.prog 26 #[.agg #[.slice qa qn qc, .slice pa pn pc], .int .i64 i] w (RepP Q A i (.slice pa pn pc) w) := by
  have HM := Lib.hid (show _ ∧ _ ∧ _ ∧ _ from ⟨hQ, hA, hQ.1, hz⟩)
  clear hQ hA hz
  obtain ⟨W, hW⟩ : ∃ W, W = (w.alloc (.cells #[.slice qa qn qc, .slice pa pn pc] 25)).alloc (.cells #[.slice none 0 0, .slice none 0 0] 25) := ⟨_, rfl⟩
  have hB : Below w.heap.size w W := by rw [hW]; go_grown
  have g1 : W.heap[w.heap.size]? = some (.cells #[.slice qa qn qc, .slice pa pn pc] 25 (0, 0)) := by rw [hW]; exact blk_alloc (blk_new _ _) _
  have g2 : W.heap[w.heap.size + 1]? = some (.cells #[.slice none 0 0, .slice none 0 0] 25 (0, 0)) := by rw [hW]; have := blk_new (w.alloc (.cells #[.slice qa qn qc, .slice pa pn pc] 25)) (.cells #[.slice none 0 0, .slice none 0 0] 25); rwa [World.size_alloc] at this
  have H := Lib.hid (show _ ∧ _ ∧ _ from ⟨g1, g2, hB⟩)
  clear hB g1 g2
  have c0 := blk_cell H.out.1 0; have c1 := blk_cell H.out.1 1
  simp at c0 c1
  go_enter Try.func26, Try.ntmps26
  go_upto_region 1 with fail
  rw [← hW]
  clear hW
  go_wp2_with fail
  clear c0 c1
  refine (asked_any qa qn qc qb qo Q pa pn pc pb po A i W (HM.out.1.grown H.out.2.2) (HM.out.2.1.grown H.out.2.2) hqn hpn).mono ?_
  rintro e W1 ⟨rfl, hb⟩
  have H1 := Lib.hid (show _ ∧ _ ∧ _ from ⟨blk_below H.out.1 hb (Array.getElem?_eq_some_iff.1 H.out.1).1, blk_below H.out.2.1 hb (Array.getElem?_eq_some_iff.1 H.out.2.1).1, below_after H.out.2.2 hb H.out.2.2.size⟩)
  clear hb
  by_cases h0 : askC Q A i = 0
  case neg =>
    obtain ⟨c, hc⟩ : ∃ c, c = askC Q A i := ⟨_, rfl⟩
    rw [← hc] at h0 ⊢
    have HC := Lib.hid (show _ ∧ _ from ⟨hc, h0⟩)
    have zc : (c == 0) = false := by simpa using h0
    have zc' : (c != 0) = true := by simpa using h0
    clear hc h0
    have e0 := blk_cell H1.out.2.1 0; have e1 := blk_cell H1.out.2.1 1; have f0 := blk_free H1.out.2.1 0; have f1 := blk_free H1.out.2.1 1
    simp at e0 e1
    go_wp2
    have hE := boxQ_set (u0 := .slice none 0 0) (u1 := .slice none 0 0) H1.out.2.1
    have hBe := (H1.out.2.2.setCell (p := ⟨w.heap.size + 1, 0, none⟩) (show w.heap.size ≤ w.heap.size + 1 by omega) (.slice none 0 0)).setCell (p := ⟨w.heap.size + 1, 1, none⟩) (show w.heap.size ≤ w.heap.size + 1 by omega) (.slice none 0 0)
    have e0' := blk_cell hE 0; have e1' := blk_cell hE 1
    simp at e0' e1'
    exact bodyPost_ret (v := .tuple #[.agg #[.slice none 0 0, .slice none 0 0], .int .i64 c]) (by simp [results, Try.results26, go_sem, e0', e1']) rfl (.inl ⟨by rw [← HC.out.1]; exact HC.out.2, by rw [← HC.out.1], hBe⟩)
  obtain ⟨hN, hi0, hi1⟩ := askC_zero h0
  rw [h0]
  clear h0
  obtain ⟨k, rfl⟩ : ∃ k : Nat, i = k := ⟨i.toNat, by omega⟩
  rw [HM.out.2.2.1] at hi1
  have hq4 : qn ≤ 4096 := by rw [← HM.out.2.2.1]; exact hN.1
  have HN := Lib.hid (show _ ∧ _ from ⟨hN, show k < Q.length from by rw [HM.out.2.2.1]; omega⟩)
  clear hN
  have hkn : k < qn := by omega
  obtain ⟨rfl, hbw⟩ := HM.out.1.2.1 (by omega)
  have c0 := blk_cell H1.out.1 0; have c1 := blk_cell H1.out.1 1
  simp at c0 c1
  have hs1 := (Array.getElem?_eq_some_iff.1 H1.out.2.1).1
  have hsz : w.heap.size ≤ W1.heap.size := by omega
  obtain ⟨k0, k1, k2⟩ := (HM.out.1.grown H1.out.2.2).2.2 k hkn
  obtain ⟨m0, m1, ma, mn, mc, hm⟩ : ∃ m0 m1 ma mn mc, nthK Q k = (m0, m1, ma, mn, mc) := ⟨_, _, _, _, _, rfl⟩
  rw [hm] at k0 k1 k2
  have HOK := Lib.hid (show NetOk Q A ∧ okK (m0, m1, ma, mn, mc) from ⟨HN.out.1, by rw [← hm]; exact HN.out.1.2.1 k HN.out.2⟩)
  have HK := Lib.hid hm
  clear hm
  dsimp only at k0 k1 k2
  go_upto_region 4 with fail
  by_cases hl : Q.length = 4096
  · have HL := Lib.hid hl
    clear hl
    go_region_with (first | (go_at_call 12; refine (rsend_l (some ⟨qb, qo, none⟩) qn qc qb qo Q pa pn pc pb po A (m0, m1, ma, mn, mc) _ ?_ ?_ hqn hpn (fun h => by cases h) HOK.out HL.out).mono ?_; (first | exact (HM.out.1.grown H1.out.2.2) | exact (HM.out.1.grown H1.out.2.2).grown (Below.refl _ _).drew); (first | exact (HM.out.2.1.grown H1.out.2.2) | exact (HM.out.2.1.grown H1.out.2.2).grown (Below.refl _ _).drew); rintro e W2 ⟨rfl, hb⟩; have H2 := Lib.hid (show _ ∧ _ ∧ _ from ⟨blk_below H1.out.1 (by first | exact hb | exact below_drew1 hb) (Array.getElem?_eq_some_iff.1 H1.out.1).1, blk_below H1.out.2.1 (by first | exact hb | exact below_drew1 hb) (Array.getElem?_eq_some_iff.1 H1.out.2.1).1, below_after H1.out.2.2 (by first | exact hb | exact below_drew1 hb) H1.out.2.2.size⟩); clear hb; have e0 := blk_cell H2.out.2.1 0; have e1 := blk_cell H2.out.2.1 1; have f0 := blk_free H2.out.2.1 0; have f1 := blk_free H2.out.2.1 1; simp at e0 e1))
    all_goals
      go_wp2
      have hE := boxQ_set (u0 := .slice none 0 0) (u1 := .slice none 0 0) H2.out.2.1
      have hBe := (H2.out.2.2.setCell (p := ⟨w.heap.size + 1, 0, none⟩) (show w.heap.size ≤ w.heap.size + 1 by omega) (.slice none 0 0)).setCell (p := ⟨w.heap.size + 1, 1, none⟩) (show w.heap.size ≤ w.heap.size + 1 by omega) (.slice none 0 0)
      have e0' := blk_cell hE 0; have e1' := blk_cell hE 1
      simp at e0' e1'
      exact bodyPost_ret (v := .tuple #[.agg #[.slice none 0 0, .slice none 0 0], .int .i64 2]) (by simp [results, Try.results26, go_sem, e0', e1']) rfl (.inr ⟨k, rfl, HN.out.2, HN.out.1, .inl ⟨HL.out, rfl, hBe⟩⟩)
  · have HL := Lib.hid hl
    clear hl
    go_region_with (first | (go_at_call 12; refine (rsend_t (some ⟨qb, qo, none⟩) qn qc qb qo Q pa pn pc pb po A (m0, m1, ma, mn, mc) _ ?_ ?_ hqn hpn (fun h => by cases h) HOK.out HL.out).mono ?_; (first | exact (HM.out.1.grown H1.out.2.2) | exact (HM.out.1.grown H1.out.2.2).grown (Below.refl _ _).drew); (first | exact (HM.out.2.1.grown H1.out.2.2) | exact (HM.out.2.1.grown H1.out.2.2).grown (Below.refl _ _).drew); rintro e W2 ⟨va, vc, rfl, hO, hb⟩; have HO := Lib.hid (hO.mono (show w.heap.size + 2 ≤ _ from by first | exact hs1 | (simp; omega))); clear hO; have H2 := Lib.hid (show _ ∧ _ ∧ _ from ⟨blk_below H1.out.1 (by first | exact hb | exact below_drew1 hb) (Array.getElem?_eq_some_iff.1 H1.out.1).1, blk_below H1.out.2.1 (by first | exact hb | exact below_drew1 hb) (Array.getElem?_eq_some_iff.1 H1.out.2.1).1, below_after H1.out.2.2 (by first | exact hb | exact below_drew1 hb) H1.out.2.2.size⟩); clear hb; have e0 := blk_cell H2.out.2.1 0; have e1 := blk_cell H2.out.2.1 1; have f0 := blk_free H2.out.2.1 0; have f1 := blk_free H2.out.2.1 1; simp at e0 e1))
    all_goals
      go_wp2
      have hE := boxQ_set (u0 := .slice va (Q.length + 1) vc) (u1 := .slice pa pn pc) H2.out.2.1
      have hBe := (H2.out.2.2.setCell (p := ⟨w.heap.size + 1, 0, none⟩) (show w.heap.size ≤ w.heap.size + 1 by omega) (.slice va (Q.length + 1) vc)).setCell (p := ⟨w.heap.size + 1, 1, none⟩) (show w.heap.size ≤ w.heap.size + 1 by omega) (.slice pa pn pc)
      have e0' := blk_cell hE 0; have e1' := blk_cell hE 1
      simp at e0' e1'
      have hOe := (HO.out.far (p := w.heap.size + 1) (i := 0) (u := .slice va (Q.length + 1) vc) (by omega)).far (p := w.heap.size + 1) (i := 1) (u := .slice pa pn pc) (by omega)
      exact bodyPost_ret (v := .tuple #[.agg #[.slice va (Q.length + 1) vc, .slice pa pn pc], .int .i64 0]) (by simp [results, Try.results26, go_sem, e0', e1']) rfl (.inr ⟨k, rfl, HN.out.2, HN.out.1, .inr ⟨HL.out, _, rfl, by rw [HK.out]; exact hOe.mono (by omega), hBe⟩⟩)
end Go.Proofs.Ythgbkdaimnejeaa
