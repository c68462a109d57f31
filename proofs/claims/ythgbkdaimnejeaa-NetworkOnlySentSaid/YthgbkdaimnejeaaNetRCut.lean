/- The reference's Cut (layer 6). -/
import Derived.Test.YthgbkdaimnejeaaNetPrs
import Derived.Test.YthgbkdaimnejeaaNetCut
import Derived.Test.YthgbkdaimnejeaaNetRDel
namespace Go.Proofs.Ythgbkdaimnejeaa
open Go.ChangeShapes Go.WideShapes Go.ChangeAt Go.RowKit Go.Sort Go.Shelf

theorem QsO.far {w : World} {B p i : Nat} {v u : Value} {l : List Qt} (h : QsO w B v l) (hp : p < B) : QsO (w.setCell ⟨p, i, none⟩ u) B v l := h.setFar hp
set_option maxRecDepth 100000 in
set_option maxHeartbeats 8000000 in
theorem rcut_any (qa : Option Addr) (qn qc qb qo : Nat) (Q : List Kt) (pa : Option Addr) (pn pc pb po : Nat) (A : List Qt) (a b : Int) (on : Bool) (w : World) (hQ : Ks w qa qn qb qo Q) (hA : Qs w pa pn pb po A) (hqn : qn ≤ 9223372036854775807) (hpn : pn ≤ 9223372036854775807) :
    Calls Try.prog 19 #[.agg #[.slice qa qn qc, .slice pa pn pc], .int .i64 a, .int .i64 b, .bool on] w (CutP Q A a b on (.slice qa qn qc) w) := by
  have HM := Lib.hid (show _ ∧ _ ∧ _ ∧ _ from ⟨hQ, hA, hQ.1, hA.1⟩)
  clear hQ hA
  obtain ⟨W, hW⟩ : ∃ W, W = (w.alloc (.cells #[.slice qa qn qc, .slice pa pn pc] 25)).alloc (.cells #[.slice none 0 0, .slice none 0 0] 25) := ⟨_, rfl⟩
  have hB : Below w.heap.size w W := by rw [hW]; go_grown
  have g1 : W.heap[w.heap.size]? = some (.cells #[.slice qa qn qc, .slice pa pn pc] 25 (0, 0)) := by rw [hW]; exact blk_alloc (blk_new _ _) _
  have g2 : W.heap[w.heap.size + 1]? = some (.cells #[.slice none 0 0, .slice none 0 0] 25 (0, 0)) := by rw [hW]; have := blk_new (w.alloc (.cells #[.slice qa qn qc, .slice pa pn pc] 25)) (.cells #[.slice none 0 0, .slice none 0 0] 25); rwa [World.size_alloc] at this
  have H := Lib.hid (show _ ∧ _ ∧ _ from ⟨g1, g2, hB⟩)
  clear hB g1 g2
  have c0 := blk_cell H.out.1 0; have c1 := blk_cell H.out.1 1
  simp at c0 c1
  go_enter Try.func19, Try.ntmps19
  go_upto_region 1 with fail
  rw [← hW]
  clear hW
  go_wp2_with fail
  clear c0 c1
  refine (rcheck_any qa qn qc qb qo Q pa pn pc pb po A W (HM.out.1.grown H.out.2.2) (HM.out.2.1.grown H.out.2.2) hqn hpn).mono ?_
  rintro e W1 ⟨rfl, hb⟩
  have H1 := Lib.hid (show _ ∧ _ ∧ _ from ⟨blk_below H.out.1 hb (Array.getElem?_eq_some_iff.1 H.out.1).1, blk_below H.out.2.1 hb (Array.getElem?_eq_some_iff.1 H.out.2.1).1, below_after H.out.2.2 hb H.out.2.2.size⟩)
  clear hb
  by_cases hN : NetOk Q A
  case neg =>
    have HN := Lib.hid hN
    rw [chkN_no hN]
    clear hN
    have e0 := blk_cell H1.out.2.1 0; have e1 := blk_cell H1.out.2.1 1; have f0 := blk_free H1.out.2.1 0; have f1 := blk_free H1.out.2.1 1
    simp at e0 e1
    go_wp2
    have hE := boxQ_set (u0 := .slice none 0 0) (u1 := .slice none 0 0) H1.out.2.1
    have hBe := boxQ_below (b := w.heap.size + 1) (u0 := .slice none 0 0) (u1 := .slice none 0 0) (show w.heap.size ≤ w.heap.size + 1 by omega) H1.out.2.2
    have e0' := blk_cell hE 0; have e1' := blk_cell hE 1
    simp at e0' e1'
    exact bodyPost_ret (v := .tuple #[.agg #[.slice none 0 0, .slice none 0 0], .int .i64 60]) (by simp [results, Try.results19, go_sem, e0', e1']) rfl (.inl ⟨HN.out, rfl, hBe⟩)
  have HN := Lib.hid hN
  rw [chkN_yes hN]
  clear hN
  by_cases hp : prt a b
  case neg =>
    have HP := Lib.hid hp
    have hpp : ¬ (site a ∧ site b ∧ a ≠ b) := fun g => hp (by unfold prt; unfold site at g; exact ⟨g.2.2, g.1, g.2.1⟩)
    clear hp
    by_cases ha : site a
    case neg =>
      have HA := Lib.hid ha
      clear ha hpp
      have e0 := blk_cell H1.out.2.1 0; have e1 := blk_cell H1.out.2.1 1; have f0 := blk_free H1.out.2.1 0; have f1 := blk_free H1.out.2.1 1
      simp at e0 e1
      go_wp2_with (first | (go_at_call 33; refine (site_f a W1 HA.out).mono ?_; rintro e w' ⟨rfl, hw'⟩; subst w'))
      have hE := boxQ_set (u0 := .slice none 0 0) (u1 := .slice none 0 0) H1.out.2.1
      have hBe := boxQ_below (b := w.heap.size + 1) (u0 := .slice none 0 0) (u1 := .slice none 0 0) (show w.heap.size ≤ w.heap.size + 1 by omega) H1.out.2.2
      have e0' := blk_cell hE 0; have e1' := blk_cell hE 1
      simp at e0' e1'
      exact bodyPost_ret (v := .tuple #[.agg #[.slice none 0 0, .slice none 0 0], .int .i64 1]) (by simp [results, Try.results19, go_sem, e0', e1']) rfl (.inr (.inl ⟨HN.out, HP.out, rfl, hBe⟩))
    by_cases hb : site b
    case neg =>
      have HA := Lib.hid (show _ ∧ _ from ⟨ha, hb⟩)
      clear ha hb hpp
      have e0 := blk_cell H1.out.2.1 0; have e1 := blk_cell H1.out.2.1 1; have f0 := blk_free H1.out.2.1 0; have f1 := blk_free H1.out.2.1 1
      simp at e0 e1
      go_wp2_with (first | (go_at_call 33; refine (site_t a W1 HA.out.1).mono ?_; rintro e w' ⟨rfl, hw'⟩; subst w') | (go_at_call 33; refine (site_f b W1 HA.out.2).mono ?_; rintro e w' ⟨rfl, hw'⟩; subst w'))
      have hE := boxQ_set (u0 := .slice none 0 0) (u1 := .slice none 0 0) H1.out.2.1
      have hBe := boxQ_below (b := w.heap.size + 1) (u0 := .slice none 0 0) (u1 := .slice none 0 0) (show w.heap.size ≤ w.heap.size + 1 by omega) H1.out.2.2
      have e0' := blk_cell hE 0; have e1' := blk_cell hE 1
      simp at e0' e1'
      exact bodyPost_ret (v := .tuple #[.agg #[.slice none 0 0, .slice none 0 0], .int .i64 1]) (by simp [results, Try.results19, go_sem, e0', e1']) rfl (.inr (.inl ⟨HN.out, HP.out, rfl, hBe⟩))
    have heq : a = b := by
      by_cases h : a = b
      · exact h
      · exact absurd ⟨ha, hb, h⟩ hpp
    subst heq
    have HA := Lib.hid ha
    clear ha hb hpp
    have zz : (a == a) = true := by simp
    have e0 := blk_cell H1.out.2.1 0; have e1 := blk_cell H1.out.2.1 1; have f0 := blk_free H1.out.2.1 0; have f1 := blk_free H1.out.2.1 1
    simp at e0 e1
    go_wp2_with (first | (go_at_call 33; refine (site_t a W1 HA.out).mono ?_; rintro e w' ⟨rfl, hw'⟩; subst w'))
    have hE := boxQ_set (u0 := .slice none 0 0) (u1 := .slice none 0 0) H1.out.2.1
    have hBe := boxQ_below (b := w.heap.size + 1) (u0 := .slice none 0 0) (u1 := .slice none 0 0) (show w.heap.size ≤ w.heap.size + 1 by omega) H1.out.2.2
    have e0' := blk_cell hE 0; have e1' := blk_cell hE 1
    simp at e0' e1'
    exact bodyPost_ret (v := .tuple #[.agg #[.slice none 0 0, .slice none 0 0], .int .i64 1]) (by simp [results, Try.results19, go_sem, e0', e1']) rfl (.inr (.inl ⟨HN.out, HP.out, rfl, hBe⟩))
  have HP := Lib.hid hp
  have hsa : site a := hp.2.1
  have hsb : site b := hp.2.2
  have hab : a ≠ b := hp.1
  have HA := Lib.hid (show _ ∧ _ from ⟨hsa, hsb⟩)
  clear hp hsa hsb
  have zz : (a == b) = false := by simpa using hab
  go_wp2_with (first | (go_at_call 33; refine (site_t a W1 HA.out.1).mono ?_; rintro e w' ⟨rfl, hw'⟩; subst w') | (go_at_call 33; refine (site_t b W1 HA.out.2).mono ?_; rintro e w' ⟨rfl, hw'⟩; subst w'))
  have hor : (a < b ∧ (prQ a b).1 = a ∧ (prQ a b).2 = b) ∨ (b < a ∧ (prQ a b).1 = b ∧ (prQ a b).2 = a) := by
    rw [rprQ]
    rcases Int.lt_or_gt_of_ne hab with h | h
    · rw [if_pos (by omega)]; exact .inl ⟨h, rfl, rfl⟩
    · rw [if_neg (by omega)]; exact .inr ⟨h, rfl, rfl⟩
  have hpi := prQ_in HP.out
  have HPQ := Lib.hid (show prQ a b = ((prQ a b).1, (prQ a b).2) from rfl)
  have HAN := Lib.hid (show okAn A A.length from HN.out.2.2)
  have HPI := Lib.hid hpi
  generalize hq0 : (prQ a b).1 = p0 at *
  generalize hq1 : (prQ a b).2 = p1 at *
  clear hpi hq0 hq1 zz hab HA
  go_loopw [10, 11] (fun l x wr => ∃ k : Nat, k ≤ 16 ∧ x = .int .i64 k ∧ QsO wr (w.heap.size + 2) l (colC A (p0, p1) on k) ∧ wr.heap[w.heap.size]? = some (.cells #[.slice qa qn qc, .slice pa pn pc] 25 (0, 0)) ∧ wr.heap[w.heap.size + 1]? = some (.cells #[.slice none 0 0, .slice none 0 0] 25 (0, 0)) ∧ Below w.heap.size w wr) (fun _ x _ => 16 - (intOf x).toNat)
  case atStart => exact ⟨0, by omega, rfl, QsO.nil _ _, H1.out⟩
  case round =>
    clear H1 H
    obtain ⟨k, hk, rfl, hO, hb1, hb2, hb⟩ := hrel
    have hs1 := (Array.getElem?_eq_some_iff.1 hb2).1
    by_cases hlt : k < 16
    case neg =>
      obtain rfl : k = 16 := by omega
      obtain ⟨va, vb, vc, rfl, -⟩ := hO.s
      have HE := Lib.hid (show _ ∧ _ ∧ _ ∧ _ from ⟨hb1, hb2, hb, hO⟩)
      generalize (colC A (p0, p1) on 16).length = vn at *
      have c0 := blk_cell hb1 0; have c1 := blk_cell hb1 1; have e0 := blk_cell hb2 0; have e1 := blk_cell hb2 1
      have g1 := blk_free hb1 1; have f0 := blk_free hb2 0; have f1 := blk_free hb2 1
      simp at c0 c1 e0 e1
      clear hO hb1 hb2 hb
      go_wp2
      have hX0 := cells_setQ (i := 1) (v := .slice va vn vc) HE.out.1
      have hX1 := (Below.heap_setCell wr ⟨w.heap.size, 1, none⟩ (.slice va vn vc) (w.heap.size + 1) (show w.heap.size + 1 ≠ w.heap.size by omega)).trans HE.out.2.1
      have hE := boxQ_set (u0 := .slice qa qn qc) (u1 := .slice va vn vc) hX1
      have hBe := boxQ_below (b := w.heap.size + 1) (u0 := .slice qa qn qc) (u1 := .slice va vn vc) (show w.heap.size ≤ w.heap.size + 1 by omega) (HE.out.2.2.1.setCell (p := ⟨w.heap.size, 1, none⟩) (Nat.le_refl _) (.slice va vn vc))
      have hOe := ((HE.out.2.2.2.far (p := w.heap.size) (i := 1) (u := .slice va vn vc) (by omega)).far (p := w.heap.size + 1) (i := 0) (u := .slice qa qn qc) (by omega)).far (p := w.heap.size + 1) (i := 1) (u := .slice va vn vc) (by omega)
      have e0' := blk_cell hE 0; have e1' := blk_cell hE 1
      simp at e0' e1'
      exact bodyPost_ret (v := .tuple #[.agg #[.slice qa qn qc, .slice va vn vc], .int .i64 0]) (by simp [results, Try.results19, go_sem, e0', e1']) rfl (.inr (.inr ⟨HN.out, HP.out, _, rfl, by rw [HPQ.out, ← colC_cut HAN.out HPI.out]; exact hOe.mono (by omega), hBe⟩))
    have hltI : decide ((k : Int) < 16) = true := decide_eq_true (by omega)
    have HK := Lib.hid (show _ ∧ _ ∧ _ ∧ _ from ⟨hO, hb1, hb2, hb⟩)
    clear hO hb1 hb2 hb
    go_wp2
    generalize wr = wr0 at *
    go_loopw [10, 12] (fun l y wr => ∃ j : Nat, k + 1 ≤ j ∧ j ≤ 16 ∧ y = .int .i64 j ∧ QsO wr (w.heap.size + 2) l (colC A (p0, p1) on k ++ rowC A (p0, p1) on k j) ∧ wr.heap[w.heap.size]? = some (.cells #[.slice qa qn qc, .slice pa pn pc] 25 (0, 0)) ∧ wr.heap[w.heap.size + 1]? = some (.cells #[.slice none 0 0, .slice none 0 0] 25 (0, 0)) ∧ Below w.heap.size w wr) (fun _ y _ => 16 - (intOf y).toNat)
    case atStart => exact ⟨k + 1, by omega, by omega, by go_num, by rw [rowC_start A (p0, p1) on k (k + 1) (by omega), List.append_nil]; exact HK.out.1, HK.out.2⟩
    case round =>
      clear HK
      obtain ⟨j, hj1, hj, rfl, hO, hb1, hb2, hb⟩ := hrel
      have hs3 := (Array.getElem?_eq_some_iff.1 hb2).1
      by_cases hjl : j < 16
      case neg =>
        have hjz : decide ((j : Int) < 16) = false := decide_eq_false (by omega)
        have HE := Lib.hid (show _ ∧ _ ∧ _ ∧ _ from ⟨(show QsO wr (w.heap.size + 2) _ (colC A (p0, p1) on (k + 1)) from by rw [colC, show (16 : Nat) = j by omega]; exact hO), hb1, hb2, hb⟩)
        clear hO hb1 hb2 hb
        go_wp2
        go_roundw
        case rel => exact ⟨k + 1, by omega, by go_num, HE.out⟩
        case measure => simp [intOf] <;> omega
      have hjI : decide ((j : Int) < 16) = true := decide_eq_true (by omega)
      obtain ⟨va, vb, vc, rfl, -⟩ := hO.s
      have hcl := colC_len A (p0, p1) on k
      have hrl := rowC_len A (p0, p1) on k j
      have hml : (colC A (p0, p1) on k ++ rowC A (p0, p1) on k j).length ≤ 1000 := by rw [List.length_append]; omega
      have hyes := fun (h : keepC A (p0, p1) on ((k : Int), (j : Int)) = true) => show colC A (p0, p1) on k ++ rowC A (p0, p1) on k (j + 1) = colC A (p0, p1) on k ++ rowC A (p0, p1) on k j ++ [((k : Int), (j : Int))] from by rw [rowC_yes (by omega) h, List.append_assoc]
      have hno := fun (h : keepC A (p0, p1) on ((k : Int), (j : Int)) = false) => show colC A (p0, p1) on k ++ rowC A (p0, p1) on k (j + 1) = colC A (p0, p1) on k ++ rowC A (p0, p1) on k j from by rw [rowC_no (by rw [h]; simp)]
      generalize colC A (p0, p1) on k ++ rowC A (p0, p1) on k j = L at *
      have hmm : L.length ≤ 1000 := hml
      have HY := Lib.hid (show _ ∧ _ from ⟨hyes, hno⟩)
      have HH := Lib.hid (show _ ∧ _ ∧ _ ∧ _ from ⟨hb1, hb2, hb, hO⟩)
      have c0 := blk_cell hb1 0; have c1 := blk_cell hb1 1
      simp at c0 c1
      clear hcl hrl hml hyes hno hO hb1 hb2 hb
      generalize hvm : L.length = m at *
      have HVM := Lib.hid hvm
      clear hvm
      go_wp2_with fail
      clear c0 c1
      refine (isCut_any qa qn qc qb qo Q pa pn pc pb po A (k : Int) (j : Int) wr (HM.out.1.grown HH.out.2.2.1) (HM.out.2.1.grown HH.out.2.2.1) hpn).mono ?_
      rintro e W3 ⟨rfl, hb⟩
      have HI := Lib.hid (show _ ∧ _ ∧ _ ∧ _ from ⟨HH.out.2.2.2.below hb (Nat.le_refl _), blk_below HH.out.1 hb (by omega), blk_below HH.out.2.1 hb hs3, below_after HH.out.2.2.1 hb HH.out.2.2.1.size⟩)
      have hs4 := hb.size
      clear hb HH
      have hkj : prQ (k : Int) (j : Int) = ((k : Int), (j : Int)) := by rw [rprQ, if_pos (by omega)]
      rw [hkj]
      clear hkj
      by_cases q0 : (k : Int) = p0
      case neg =>
        have z0 : ((k : Int) == p0) = false := by simpa using q0
        have hke := keepC_ne (A := A) (on := on) (show ((k : Int), (j : Int)) ≠ (p0, p1) from fun e => q0 (by cases e; rfl))
        by_cases hm : ((k : Int), (j : Int)) ∈ A
        · rw [decide_eq_true hm] at hke ⊢
          have N := Lib.hid (HY.out.1 hke)
          clear hm hke q0
          rcases hor with ⟨ho, rfl, rfl⟩ | ⟨ho, rfl, rfl⟩
          all_goals
            have ho1 := Int.le_of_lt ho
            go_wp2_with (at_builtin; go_loud (refine wpList_append_Q rfl (.tmp 60) (.tmp 64) rfl (w.heap.size + 2) (.slice va m vc) L (by rfl) (HI.out.1.alloc _) W3.heap.size ((k : Int), (j : Int)) (by rfl) 55 (0, 0) (blk_new _ _) (by rw [HVM.out]; omega) (by simp; omega) ?_; intro v2 w2 hO2 hB2 _; have HP := Lib.hid (show _ ∧ _ ∧ _ ∧ _ from ⟨hO2, blk_below (blk_alloc HI.out.2.1 _) hB2 (by omega), blk_below (blk_alloc HI.out.2.2.1 _) hB2 (by omega), (HI.out.2.2.2.alloc (by omega) _).trans (hB2.mono (by omega))⟩); clear hO2 hB2))
            all_goals (first | (exfalso; omega) | skip)
            all_goals
              go_roundw
              case rel => exact ⟨j + 1, by omega, by omega, by go_num, by rw [N.out]; exact HP.out.1, HP.out.2.1, HP.out.2.2.1, HP.out.2.2.2⟩
              case measure => simp [intOf] <;> omega
        · rw [decide_eq_false hm] at hke ⊢
          have N := Lib.hid (HY.out.2 hke)
          clear hm hke q0
          rcases hor with ⟨ho, rfl, rfl⟩ | ⟨ho, rfl, rfl⟩
          all_goals
            have ho1 := Int.le_of_lt ho
            go_wp2
            all_goals (first | (exfalso; omega) | skip)
            all_goals
              go_roundw
              case rel => exact ⟨j + 1, by omega, by omega, by go_num, by rw [N.out]; exact HI.out.1, HI.out.2.1, HI.out.2.2.1, HI.out.2.2.2⟩
              case measure => simp [intOf] <;> omega
      have z0 : ((k : Int) == p0) = true := by simpa using q0
      by_cases q1 : (j : Int) = p1
      case neg =>
        have z1 : ((j : Int) == p1) = false := by simpa using q1
        have hke := keepC_ne (A := A) (on := on) (show ((k : Int), (j : Int)) ≠ (p0, p1) from fun e => q1 (by cases e; rfl))
        by_cases hm : ((k : Int), (j : Int)) ∈ A
        · rw [decide_eq_true hm] at hke ⊢
          have N := Lib.hid (HY.out.1 hke)
          clear hm hke q0 q1
          rcases hor with ⟨ho, rfl, rfl⟩ | ⟨ho, rfl, rfl⟩
          all_goals
            have ho1 := Int.le_of_lt ho
            go_wp2_with (at_builtin; go_loud (refine wpList_append_Q rfl (.tmp 60) (.tmp 64) rfl (w.heap.size + 2) (.slice va m vc) L (by rfl) (HI.out.1.alloc _) W3.heap.size ((k : Int), (j : Int)) (by rfl) 55 (0, 0) (blk_new _ _) (by rw [HVM.out]; omega) (by simp; omega) ?_; intro v2 w2 hO2 hB2 _; have HP := Lib.hid (show _ ∧ _ ∧ _ ∧ _ from ⟨hO2, blk_below (blk_alloc HI.out.2.1 _) hB2 (by omega), blk_below (blk_alloc HI.out.2.2.1 _) hB2 (by omega), (HI.out.2.2.2.alloc (by omega) _).trans (hB2.mono (by omega))⟩); clear hO2 hB2))
            all_goals (first | (exfalso; omega) | skip)
            all_goals
              go_roundw
              case rel => exact ⟨j + 1, by omega, by omega, by go_num, by rw [N.out]; exact HP.out.1, HP.out.2.1, HP.out.2.2.1, HP.out.2.2.2⟩
              case measure => simp [intOf] <;> omega
        · rw [decide_eq_false hm] at hke ⊢
          have N := Lib.hid (HY.out.2 hke)
          clear hm hke q0 q1
          rcases hor with ⟨ho, rfl, rfl⟩ | ⟨ho, rfl, rfl⟩
          all_goals
            have ho1 := Int.le_of_lt ho
            go_wp2
            all_goals (first | (exfalso; omega) | skip)
            all_goals
              go_roundw
              case rel => exact ⟨j + 1, by omega, by omega, by go_num, by rw [N.out]; exact HI.out.1, HI.out.2.1, HI.out.2.2.1, HI.out.2.2.2⟩
              case measure => simp [intOf] <;> omega
      have z1 : ((j : Int) == p1) = true := by simpa using q1
      have hke : keepC A (p0, p1) on ((k : Int), (j : Int)) = on := by rw [q0, q1]; exact keepC_at
      generalize decide (((k : Int), (j : Int)) ∈ A) = dv
      clear q0 q1
      cases on
      · have N := Lib.hid (HY.out.2 hke)
        clear hke
        rcases hor with ⟨ho, rfl, rfl⟩ | ⟨ho, rfl, rfl⟩
        all_goals
          have ho1 := Int.le_of_lt ho
          go_wp2
          all_goals (first | (exfalso; omega) | skip)
          all_goals
            go_roundw
            case rel => exact ⟨j + 1, by omega, by omega, by go_num, by rw [N.out]; exact HI.out.1, HI.out.2.1, HI.out.2.2.1, HI.out.2.2.2⟩
            case measure => simp [intOf] <;> omega
      · have N := Lib.hid (HY.out.1 hke)
        clear hke
        rcases hor with ⟨ho, rfl, rfl⟩ | ⟨ho, rfl, rfl⟩
        all_goals
          have ho1 := Int.le_of_lt ho
          go_wp2_with (at_builtin; go_loud (refine wpList_append_Q rfl (.tmp 60) (.tmp 64) rfl (w.heap.size + 2) (.slice va m vc) L (by rfl) (HI.out.1.alloc _) W3.heap.size ((k : Int), (j : Int)) (by rfl) 55 (0, 0) (blk_new _ _) (by rw [HVM.out]; omega) (by simp; omega) ?_; intro v2 w2 hO2 hB2 _; have HP := Lib.hid (show _ ∧ _ ∧ _ ∧ _ from ⟨hO2, blk_below (blk_alloc HI.out.2.1 _) hB2 (by omega), blk_below (blk_alloc HI.out.2.2.1 _) hB2 (by omega), (HI.out.2.2.2.alloc (by omega) _).trans (hB2.mono (by omega))⟩); clear hO2 hB2))
          all_goals (first | (exfalso; omega) | skip)
          all_goals
            go_roundw
            case rel => exact ⟨j + 1, by omega, by omega, by go_num, by rw [N.out]; exact HP.out.1, HP.out.2.1, HP.out.2.2.1, HP.out.2.2.2⟩
            case measure => simp [intOf] <;> omega
end Go.Proofs.Ythgbkdaimnejeaa
