/- CalibrateCounts (layer 42). -/
import Derived.Test.YtjedpemjifcciaaCalLawA
namespace Go.Proofs.Ytjedpemjifcciaa
open Go.ChangeShapes Go.WideShapes Go.ChangeAt Go.RowKit Go.Sort Go.Shelf

theorem cnt_none {l : List Rt} {d p k : Int} : ∀ (n : Nat), (∀ j, j < n → ¬ mat d p k (nthR l j)) → cnt l d p k n = (0, 0, false)
  | 0, _ => rfl
  | n + 1, h => by rw [cnt_no (h n (by omega))]; exact cnt_none n fun j hj => h j (by omega)
theorem cnt_last {l : List Rt} {d p k : Int} {j : Nat} (hm : mat d p k (nthR l j)) : ∀ (n : Nat), j < n → (∀ t, j < t → t < n → ¬ mat d p k (nthR l t)) → cnt l d p k n = ((nthR l j).2.2.2.1, (nthR l j).2.2.2.2, true)
  | 0, h, _ => by omega
  | n + 1, h, hn => by
    by_cases e : j = n
    · subst e; exact cnt_yes hm
    · rw [cnt_no (hn n (by omega) (by omega))]
      exact cnt_last hm n (by omega) fun t h1 h2 => hn t h1 (by omega)
def Scan (l : List Rt) (d p k : Int) (n t : Nat) (s : Bool) (x : Rt) : Prop :=
  (s = false ∧ x = (0, 0, 0, 0, 0) ∧ ∀ j, t ≤ j → j < n → ¬ mat d p k (nthR l j)) ∨ (s = true ∧ ∃ j, t ≤ j ∧ j < n ∧ mat d p k (nthR l j) ∧ x = nthR l j ∧ ∀ j', j < j' → j' < n → ¬ mat d p k (nthR l j'))
theorem Scan.init (l : List Rt) (d p k : Int) (n : Nat) : Scan l d p k n n false (0, 0, 0, 0, 0) := .inl ⟨rfl, rfl, fun j h1 h2 => by omega⟩
theorem Scan.no {l : List Rt} {d p k : Int} {n t : Nat} {s : Bool} {x : Rt} (h : Scan l d p k n (t + 1) s x) (hm : ¬ mat d p k (nthR l t)) : Scan l d p k n t s x := by
  rcases h with ⟨h1, h2, h3⟩ | ⟨h1, j, h2, h3⟩
  · exact .inl ⟨h1, h2, fun j hj hj' => by
      by_cases e : j = t
      · subst e; exact hm
      · exact h3 j (by omega) hj'⟩
  · exact .inr ⟨h1, j, by omega, h3⟩
theorem Scan.old {l : List Rt} {d p k : Int} {n t : Nat} {x : Rt} (h : Scan l d p k n (t + 1) true x) : Scan l d p k n t true x := by
  rcases h with ⟨h1, _⟩ | ⟨h1, j, h2, h3⟩
  · cases h1
  · exact .inr ⟨h1, j, by omega, h3⟩
theorem Scan.new {l : List Rt} {d p k : Int} {n t : Nat} {x : Rt} (h : Scan l d p k n (t + 1) false x) (ht : t < n) (hm : mat d p k (nthR l t)) : Scan l d p k n t true (nthR l t) := by
  rcases h with ⟨_, _, h3⟩ | ⟨h1, _⟩
  · exact .inr ⟨rfl, t, Nat.le_refl _, ht, hm, rfl, fun j h1 h2 => h3 j (by omega) h2⟩
  · cases h1
theorem Scan.end {l : List Rt} {d p k : Int} {n : Nat} {s : Bool} {x : Rt} (h : Scan l d p k n 0 s x) : cnt l d p k n = (x.2.2.2.1, x.2.2.2.2, s) := by
  rcases h with ⟨rfl, rfl, h3⟩ | ⟨rfl, j, _, h3, h4, rfl, h5⟩
  · exact cnt_none n fun j hj => h3 j (by omega) hj
  · exact cnt_last h4 n h3 h5
/-- Of two that count, the later one in the list begins later, or is known later. -/
theorem Scan.ord {l : List Rt} {d p k : Int} {n t : Nat} {x : Rt} (h : Scan l d p k n (t + 1) true x) (hok : okTo l l.length) (hn : l.length = n) (hm : mat d p k (nthR l t)) : (nthR l t).2.1 < x.2.1 ∨ ((nthR l t).2.1 = x.2.1 ∧ (nthR l t).2.2.1 < x.2.2.1) := by
  rcases h with ⟨h1, _⟩ | ⟨_, j, h2, h3, h4, rfl, _⟩
  · cases h1
  have := recs_lt hok (i := t) (j := j) (by omega) (by omega)
  unfold ltK ky at this
  unfold mat at hm h4
  obtain ⟨e1, _⟩ := hm
  obtain ⟨e2, _⟩ := h4
  dsimp only at this
  omega
set_option maxRecDepth 100000 in
set_option maxHeartbeats 8000000 in
theorem countsLaw_walk (a : Option Addr) (n cap b off : Nat) (l : List Rt) (d p k : Int) (w : World) (h : Rs w a n b off l) (hn : n ≤ 9223372036854775807) :
    Calls Try.prog 5 #[.slice a n cap, .int .i64 d, .int .i64 p, .int .i64 k] w fun e w' => e = .returned (.bool true) ∧ Below w.heap.size w w' := by
  have HM := Lib.hid (show _ ∧ _ ∧ _ from ⟨h, h.1, h.2.1⟩)
  clear h
  go_enter Try.func5, Try.ntmps5
  go_wp2_with fail
  refine (sane_any w).mono ?_
  rintro e W1 ⟨rfl, hb1⟩
  have H1 := Lib.hid hb1
  clear hb1
  by_cases h3 : 300 < n
  · have z : decide (300 < (n : Int)) = true := decide_eq_true (by omega)
    go_wp2
    exact bodyPost_ret (v := .bool true) (by simp [results, Try.results5, go_sem]) rfl ⟨rfl, H1.out⟩
  have z : decide (300 < (n : Int)) = false := decide_eq_false (by omega)
  go_wp2_with fail
  refine (rcheck_any a n cap b off l W1 (HM.out.1.grown H1.out) hn).mono ?_
  rintro e W2 ⟨rfl, hb⟩
  have H2 := Lib.hid (below_after H1.out hb H1.out.size)
  clear hb H1
  by_cases hR : Recs l
  case neg =>
    have hc : chkR l ≠ 0 := by
      rcases chkR_cases l with ⟨_, h2⟩ | ⟨_, _, h2⟩ | ⟨h2, _⟩
      · rw [h2]; decide
      · rw [h2]; decide
      · exact absurd h2 hR
    generalize chkR l = c0 at *
    have zc : (c0 == 0) = false := by simpa using hc
    have zc' : (c0 != 0) = true := by simpa using hc
    have zc2 : decide (c0 = 0) = false := decide_eq_false hc
    clear hc hR
    go_wp2
    exact bodyPost_ret (v := .bool true) (by simp [results, Try.results5, go_sem]) rfl ⟨rfl, H2.out⟩
  have HR := Lib.hid hR
  rw [chkR_yes hR]
  go_wp2_with fail
  refine (at_any a n cap b off l d p k W2 (HM.out.1.grown H2.out) hn).mono ?_
  rintro e W3 ⟨rfl, hb⟩
  have H3 := Lib.hid (below_after H2.out hb H2.out.size)
  clear hb H2 z
  by_cases ha : argOk d p k
  case neg =>
    rw [atV_bad hR ha]
    clear hR ha
    dsimp only [vA]
    go_wp2
    exact bodyPost_ret (v := .bool true) (by simp [results, Try.results5, go_sem]) rfl ⟨rfl, H3.out⟩
  have HA := Lib.hid (atV_yes hR ha)
  clear hR ha
  rw [HA.out]
  obtain ⟨y, hy⟩ : ∃ y, y = cnt l d p k l.length := ⟨_, rfl⟩
  rw [← hy]
  have HY := Lib.hid hy
  clear hy HA
  obtain ⟨y0, y1, y2⟩ := y
  dsimp only [vA]
  go_upto_region 9 with fail
  have HB := Lib.hid (show (W3.alloc (.cells #[.int .i64 0, .int .i64 0, .int .i64 0, .int .i64 0, .int .i64 0] 24)).heap[W3.heap.size]? = some (.cells #[.int .i64 0, .int .i64 0, .int .i64 0, .int .i64 0, .int .i64 0] 24 (0, 0)) ∧ Below w.heap.size w (W3.alloc (.cells #[.int .i64 0, .int .i64 0, .int .i64 0, .int .i64 0, .int .i64 0] 24)) from ⟨blk_new _ _, H3.out.alloc H3.out.size _⟩)
  have hsz := H3.out.size
  generalize W3.alloc (.cells #[.int .i64 0, .int .i64 0, .int .i64 0, .int .i64 0, .int .i64 0] 24) = W4 at *
  generalize W3.heap.size = q at *
  clear H3
  go_wp2
  go_loopw [13, 15] (fun s i wr => ∃ (t : Nat) (sb : Bool) (x : Rt), t ≤ n ∧ s = .bool sb ∧ i = .int .i64 ((t : Int) - 1) ∧ Scan l d p k n t sb x ∧ wr.heap[q]? = some (.cells (encR x).toArray 24 (0, 0)) ∧ Below w.heap.size w wr) (fun _ i _ => (intOf i + 1).toNat)
  case atStart => exact ⟨n, _, _, Nat.le_refl _, rfl, by go_num, Scan.init _ _ _ _ _, HB.out⟩
  case round =>
    clear HB
    obtain ⟨t, sb, ⟨b0, b1, b2, b3, b4⟩, ht, rfl, rfl, hS, hbx, hb⟩ := hrel
    replace hbx : wr.heap[q]? = some (.cells #[.int .i64 b0, .int .i64 b1, .int .i64 b2, .int .i64 b3, .int .i64 b4] 24 (0, 0)) := hbx
    have g0 := blk_cell hbx 0; have g1 := blk_cell hbx 1; have g2 := blk_cell hbx 2; have g3 := blk_cell hbx 3; have g4 := blk_cell hbx 4
    simp at g0 g1 g2 g3 g4
    rcases Nat.eq_zero_or_pos t with rfl | h0
    · obtain ⟨e0, e1, e2⟩ : y0 = b3 ∧ y1 = b4 ∧ y2 = sb := by
        have := hS.end
        rw [← HM.out.2.1, ← HY.out] at this
        cases this
        exact ⟨rfl, rfl, rfl⟩
      subst e0 e1 e2
      have HB := Lib.hid hb
      clear hS hbx hb
      have zt : decide (0 ≤ (((0 : Nat) : Int) - 1)) = false := by decide
      have z0 : (y0 == y0) = true := beq_self_eq_true y0
      have z1 : (y1 == y1) = true := beq_self_eq_true y1
      have z2 : (y2 == y2) = true := beq_self_eq_true y2
      go_wp2
      exact bodyPost_ret (v := .bool true) (by simp [results, Try.results5, go_sem]) rfl ⟨rfl, HB.out⟩
    obtain ⟨j, rfl⟩ : ∃ j, t = j + 1 := ⟨t - 1, by omega⟩
    have et : (((j + 1 : Nat) : Int) - 1) = (j : Int) := by omega
    rw [et]
    clear et h0
    obtain ⟨rfl, hbw⟩ := HM.out.2.2 (by omega)
    obtain ⟨c0, c1, c2, c3, c4⟩ := (HM.out.1.grown hb).2.2 j (by omega)
    have hno := fun (h : ¬ mat d p k (nthR l j)) => hS.no h
    have hnew := fun (h : mat d p k (nthR l j)) (e : sb = false) => Scan.new (e ▸ hS) (by omega) h
    have hold := fun (e : sb = true) => Scan.old (e ▸ hS)
    have hord := fun (h : mat d p k (nthR l j)) (e : sb = true) => Scan.ord (e ▸ hS) HR.out.2 HM.out.2.1 h
    generalize hx : nthR l j = x at *
    obtain ⟨x0, x1, x2, x3, x4⟩ := x
    have hq := (Array.getElem?_eq_some_iff.1 hbx).1
    have HX := Lib.hid (show _ ∧ _ ∧ _ ∧ _ from ⟨hno, hnew, hold, hord⟩)
    clear hno hnew hold hord hx hS
    dsimp only at c0 c1 c2 c3 c4
    have hjn : j < n := by omega
    go_upto_region 13 with fail
    clear c0 c1 c2 c3 c4 g0 g1 g2 g3 g4
    have HB := Lib.hid (show (wr.alloc (.cells #[.int .i64 x0, .int .i64 x1, .int .i64 x2, .int .i64 x3, .int .i64 x4] 24)).heap[wr.heap.size]? = some (.cells #[.int .i64 x0, .int .i64 x1, .int .i64 x2, .int .i64 x3, .int .i64 x4] 24 (0, 0)) ∧ (wr.alloc (.cells #[.int .i64 x0, .int .i64 x1, .int .i64 x2, .int .i64 x3, .int .i64 x4] 24)).heap[q]? = some (.cells #[.int .i64 b0, .int .i64 b1, .int .i64 b2, .int .i64 b3, .int .i64 b4] 24 (0, 0)) ∧ Below w.heap.size w (wr.alloc (.cells #[.int .i64 x0, .int .i64 x1, .int .i64 x2, .int .i64 x3, .int .i64 x4] 24)) from ⟨blk_new _ _, blk_alloc hbx _, hb.alloc hb.size _⟩)
    clear hbx hb
    have hqr : q ≠ wr.heap.size := by omega
    generalize wr.alloc (.cells #[.int .i64 x0, .int .i64 x1, .int .i64 x2, .int .i64 x3, .int .i64 x4] 24) = W5 at *
    generalize wr.heap.size = u at *
    have c0 := blk_cell HB.out.1 0; have c1 := blk_cell HB.out.1 1; have c2 := blk_cell HB.out.1 2; have c3 := blk_cell HB.out.1 3; have c4 := blk_cell HB.out.1 4
    have g0 := blk_cell HB.out.2.1 0; have g1 := blk_cell HB.out.2.1 1; have g2 := blk_cell HB.out.2.1 2; have g3 := blk_cell HB.out.2.1 3; have g4 := blk_cell HB.out.2.1 4
    simp at c0 c1 c2 c3 c4 g0 g1 g2 g3 g4
    by_cases q0 : x0 = d
    case neg =>
      have z0 : (x0 == d) = false := by simpa using q0
      have z0' : (x0 != d) = true := by simpa using q0
      have y0' : decide (x0 = d) = false := decide_eq_false q0
      have N := Lib.hid (HX.out.1 (fun g => q0 g.1))
      go_wp2
      go_roundw
      case rel => exact ⟨j, _, _, by omega, rfl, rfl, N.out, HB.out.2⟩
      case measure => simp [intOf] <;> omega
    have z0 : (x0 == d) = true := by simpa using q0
    have z0' : (x0 != d) = false := by simpa using q0
    have y0' : decide (x0 = d) = true := decide_eq_true q0
    by_cases q1 : p < x1
    · have z1 : decide (p < x1) = true := decide_eq_true q1
      have N := Lib.hid (HX.out.1 (fun g => by have := g.2.1; dsimp only at this; omega))
      go_wp2
      go_roundw
      case rel => exact ⟨j, _, _, by omega, rfl, rfl, N.out, HB.out.2⟩
      case measure => simp [intOf] <;> omega
    have z1 : decide (p < x1) = false := decide_eq_false q1
    by_cases q2 : k < x2
    · have z2 : decide (k < x2) = true := decide_eq_true q2
      have N := Lib.hid (HX.out.1 (fun g => by have := g.2.2; dsimp only at this; omega))
      go_wp2
      go_roundw
      case rel => exact ⟨j, _, _, by omega, rfl, rfl, N.out, HB.out.2⟩
      case measure => simp [intOf] <;> omega
    have z2 : decide (k < x2) = false := decide_eq_false q2
    have hm : mat d p k (x0, x1, x2, x3, x4) := ⟨q0, by dsimp only; omega, by dsimp only; omega⟩
    cases sb
    case false =>
      have N := Lib.hid (HX.out.2.1 hm rfl)
      clear hm q0 q1 q2
      have f0 := blk_free HB.out.2.1 0; have f1 := blk_free HB.out.2.1 1; have f2 := blk_free HB.out.2.1 2; have f3 := blk_free HB.out.2.1 3; have f4 := blk_free HB.out.2.1 4
      go_upto_region 15 with fail
      go_region
      clear c0 c1 c2 c3 c4 g0 g1 g2 g3 g4 f0 f1 f2 f3 f4
      have HN := Lib.hid (show ((((((W5.setCell ⟨q, 0, none⟩ (.int .i64 x0)).setCell ⟨q, 1, none⟩ (.int .i64 x1)).setCell ⟨q, 2, none⟩ (.int .i64 x2)).setCell ⟨q, 3, none⟩ (.int .i64 x3)).setCell ⟨q, 4, none⟩ (.int .i64 x4)).drew).heap[q]? = some (.cells (encR (x0, x1, x2, x3, x4)).toArray 24 (0, 0)) ∧ Below w.heap.size w ((((((W5.setCell ⟨q, 0, none⟩ (.int .i64 x0)).setCell ⟨q, 1, none⟩ (.int .i64 x1)).setCell ⟨q, 2, none⟩ (.int .i64 x2)).setCell ⟨q, 3, none⟩ (.int .i64 x3)).setCell ⟨q, 4, none⟩ (.int .i64 x4)).drew) from ⟨blk_drew (boxR_set HB.out.2.1), (boxR_below hsz HB.out.2.2).drew⟩)
      generalize (((((W5.setCell ⟨q, 0, none⟩ (.int .i64 x0)).setCell ⟨q, 1, none⟩ (.int .i64 x1)).setCell ⟨q, 2, none⟩ (.int .i64 x2)).setCell ⟨q, 3, none⟩ (.int .i64 x3)).setCell ⟨q, 4, none⟩ (.int .i64 x4)).drew = W6 at *
      clear HB
      go_wp2
      go_roundw
      case rel => exact ⟨j, _, _, by omega, rfl, rfl, N.out, HN.out⟩
      case measure => simp [intOf] <;> omega
    rcases HX.out.2.2.2 hm rfl with o | ⟨o, o2⟩
    · dsimp only at o
      have z3 : decide (b1 < x1) = false := decide_eq_false (by omega)
      have z4 : (x1 == b1) = false := by simp; omega
      have z4' : decide (x1 = b1) = false := decide_eq_false (by omega)
      have N := Lib.hid (HX.out.2.2.1 rfl)
      clear hm o q0 q1 q2
      go_wp2
      go_roundw
      case rel => exact ⟨j, _, _, by omega, rfl, rfl, N.out, HB.out.2⟩
      case measure => simp [intOf] <;> omega
    dsimp only at o o2
    subst o
    have z3 : decide (x1 < x1) = false := decide_eq_false (by omega)
    have z4 : (x1 == x1) = true := by simp
    have z5 : decide (b2 < x2) = false := decide_eq_false (by omega)
    have N := Lib.hid (HX.out.2.2.1 rfl)
    clear hm q0 q1 q2
    go_wp2
    go_roundw
    case rel => exact ⟨j, _, _, by omega, rfl, rfl, N.out, HB.out.2⟩
    case measure => simp [intOf] <;> omega
end Go.Proofs.Ytjedpemjifcciaa
