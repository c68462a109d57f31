/- Small functions of network (layer 6). -/
import Derived.Test.YthgbkdaimnejeaaSK
import Derived.Test.YthgbkdaimnejeaaSQ
import Derived.Test.YthgbkdaimnejeaaGrow
import Derived.Test.YthgbkdaimnejeaaGrowT
import Derived.Deep.Cut
namespace Go.Proofs.Ythgbkdaimnejeaa
open Go.ChangeShapes Go.WideShapes Go.ChangeAt Go.RowKit

abbrev vK (m : Kt) : Value := .agg #[.int .i64 m.1, .int .i64 m.2.1, .slice m.2.2.1 m.2.2.2.1 m.2.2.2.2]
abbrev vQ (m : Qt) : Value := .agg #[.int .i64 m.1, .int .i64 m.2]
def prt (a b : Int) : Prop := a ≠ b ∧ (0 ≤ a ∧ a < 16) ∧ (0 ≤ b ∧ b < 16)
instance (a b : Int) : Decidable (prt a b) := by unfold prt; infer_instance
theorem parties_any (a b : Int) (w : World) : Calls Try.prog 31 #[.int .i64 a, .int .i64 b] w fun e w' => e = .returned (.bool (decide (prt a b))) ∧ w' = w := by
  rcases Int.lt_trichotomy a b with h | h | h
  · go_enter Try.func31, Try.ntmps31
    have h0 : a ≠ b := by omega
    have h1 : a ≤ b := by omega
    go_wp2
    all_goals
      exact bodyPost_ret (v := .bool (decide (prt a b))) (by simp [results, Try.results31, go_sem] <;> (first | (simp [prt, h0]; done) | (simp [prt, h0]; omega) | (rw [Bool.eq_iff_iff]; simp [prt, h0]; done) | (rw [Bool.eq_iff_iff]; simp [prt, h0]; omega))) rfl ⟨rfl, rfl⟩
  · subst h
    go_enter Try.func31, Try.ntmps31
    have z0 : (a == a) = true := by simp
    have z0' : (a != a) = false := by simp
    go_wp2
    exact bodyPost_ret (v := .bool (decide (prt a a))) (by simp [results, Try.results31, go_sem] <;> (first | (simp [prt]; done) | (simp [prt]; omega) | (rw [Bool.eq_iff_iff]; simp [prt]; done) | (rw [Bool.eq_iff_iff]; simp [prt]; omega))) rfl ⟨rfl, rfl⟩
  · go_enter Try.func31, Try.ntmps31
    have h0 : a ≠ b := by omega
    have h1 : b ≤ a := by omega
    go_wp2
    all_goals
      exact bodyPost_ret (v := .bool (decide (prt a b))) (by simp [results, Try.results31, go_sem] <;> (first | (simp [prt, h0]; done) | (simp [prt, h0]; omega) | (rw [Bool.eq_iff_iff]; simp [prt, h0]; done) | (rw [Bool.eq_iff_iff]; simp [prt, h0]; omega))) rfl ⟨rfl, rfl⟩
theorem parties_t (a b : Int) (w : World) (h : prt a b) : Calls Try.prog 31 #[.int .i64 a, .int .i64 b] w fun e w' => e = .returned (.bool true) ∧ w' = w := by
  have := parties_any a b w; rwa [decide_eq_true h] at this
theorem parties_f (a b : Int) (w : World) (h : ¬ prt a b) : Calls Try.prog 31 #[.int .i64 a, .int .i64 b] w fun e w' => e = .returned (.bool false) ∧ w' = w := by
  have := parties_any a b w; rwa [decide_eq_false h] at this
def site (a : Int) : Prop := 0 ≤ a ∧ a < 16
instance (a : Int) : Decidable (site a) := by unfold site; infer_instance
theorem site_any (a : Int) (w : World) : Calls Try.prog 33 #[.int .i64 a] w fun e w' => e = .returned (.bool (decide (site a))) ∧ w' = w := by
  go_enter Try.func33, Try.ntmps33
  go_wp2
  all_goals
    exact bodyPost_ret (v := .bool (decide (site a))) (by simp [results, Try.results33, go_sem] <;> (first | (simp [site]; done) | (simp [site]; omega) | (rw [Bool.eq_iff_iff]; simp [site]; done) | (rw [Bool.eq_iff_iff]; simp [site]; omega))) rfl ⟨rfl, rfl⟩
def okK (m : Kt) : Prop := prt m.1 m.2.1 ∧ m.2.2.2.1 ≤ 1048576
instance (m : Kt) : Decidable (okK m) := by unfold okK; infer_instance
theorem valid_any (m : Kt) (w : World) : Calls Try.prog 28 #[vK m] w fun e w' => e = .returned (.bool (decide (okK m))) ∧ Below w.heap.size w w' := by
  obtain ⟨m0, m1, ma, mn, mc⟩ := m
  dsimp only [vK]
  obtain ⟨W, hW⟩ : ∃ W, W = w.alloc (.cells #[.int .i64 m0, .int .i64 m1, .slice ma mn mc] 28) := ⟨_, rfl⟩
  have hB : Below w.heap.size w W := by rw [hW]; go_grown
  have g1 : W.heap[w.heap.size]? = some (.cells #[.int .i64 m0, .int .i64 m1, .slice ma mn mc] 28 (0, 0)) := by rw [hW]; exact blk_new _ _
  have c0 := blk_cell g1 0; have c1 := blk_cell g1 1; have c2 := blk_cell g1 2
  simp at c0 c1 c2
  have H := Lib.hid hB
  clear hB g1
  go_enter Try.func28, Try.ntmps28
  go_upto_region 1 with fail
  rw [← hW]
  clear hW
  go_wp2_with fail
  by_cases hp : prt m0 m1
  · refine (parties_t m0 m1 W hp).mono ?_
    rintro e w' ⟨rfl, rfl⟩
    have HP := Lib.hid hp
    clear hp
    go_wp2
    exact bodyPost_ret (v := .bool (decide (okK (m0, m1, ma, mn, mc)))) (by simp [results, Try.results28, go_sem] <;> (first | (simp [okK, HP.out]; done) | (simp [okK, HP.out]; omega) | (rw [Bool.eq_iff_iff]; simp [okK, HP.out]; done) | (rw [Bool.eq_iff_iff]; simp [okK, HP.out]; omega))) rfl ⟨rfl, H.out⟩
  · refine (parties_f m0 m1 W hp).mono ?_
    rintro e w' ⟨rfl, rfl⟩
    have HP := Lib.hid hp
    clear hp
    go_wp2
    exact bodyPost_ret (v := .bool (decide (okK (m0, m1, ma, mn, mc)))) (by simp [results, Try.results28, go_sem] <;> (first | (simp [okK, HP.out]; done) | (simp [okK, HP.out]; omega) | (rw [Bool.eq_iff_iff]; simp [okK, HP.out]; done) | (rw [Bool.eq_iff_iff]; simp [okK, HP.out]; omega))) rfl ⟨rfl, H.out⟩
def ltQ (x y : Qt) : Prop := x.1 < y.1 ∨ (x.1 = y.1 ∧ x.2 < y.2)
instance (x y : Qt) : Decidable (ltQ x y) := by unfold ltQ; infer_instance
theorem before_any (x y : Qt) (w : World) : Calls Try.prog 32 #[vQ x, vQ y] w fun e w' => e = .returned (.bool (decide (ltQ x y))) ∧ Below w.heap.size w w' := by
  obtain ⟨x0, x1⟩ := x
  obtain ⟨y0, y1⟩ := y
  dsimp only [vQ]
  obtain ⟨W, hW⟩ : ∃ W, W = (w.alloc (.cells #[.int .i64 x0, .int .i64 x1] 55)).alloc (.cells #[.int .i64 y0, .int .i64 y1] 55) := ⟨_, rfl⟩
  have hB : Below w.heap.size w W := by rw [hW]; go_grown
  have g1 : W.heap[w.heap.size]? = some (.cells #[.int .i64 x0, .int .i64 x1] 55 (0, 0)) := by rw [hW]; exact blk_alloc (blk_new _ _) _
  have g2 : W.heap[w.heap.size + 1]? = some (.cells #[.int .i64 y0, .int .i64 y1] 55 (0, 0)) := by rw [hW]; have := blk_new (w.alloc (.cells #[.int .i64 x0, .int .i64 x1] 55)) (.cells #[.int .i64 y0, .int .i64 y1] 55); rwa [World.size_alloc] at this
  have c0 := blk_cell g1 0; have c1 := blk_cell g1 1; have d0 := blk_cell g2 0; have d1 := blk_cell g2 1
  simp at c0 c1 d0 d1
  have H := Lib.hid hB
  clear hB g1 g2
  go_enter Try.func32, Try.ntmps32
  go_upto_region 1 with fail
  rw [← hW]
  clear hW
  by_cases h : x0 < y0
  · have z0 : decide (x0 < y0) = true := decide_eq_true h
    go_wp2
    exact bodyPost_ret (v := .bool (decide (ltQ (x0, x1) (y0, y1)))) (by simp [results, Try.results32, go_sem] <;> (first | (simp [ltQ, h]; done) | (simp [ltQ, h]; omega) | (rw [Bool.eq_iff_iff]; simp [ltQ, h]; done) | (rw [Bool.eq_iff_iff]; simp [ltQ, h]; omega))) rfl ⟨rfl, H.out⟩
  have z0 : decide (x0 < y0) = false := decide_eq_false h
  by_cases h1 : x0 = y0
  · have z1 : (x0 == y0) = true := by simpa using h1
    have HP := Lib.hid h1
    clear h1
    go_wp2
    exact bodyPost_ret (v := .bool (decide (ltQ (x0, x1) (y0, y1)))) (by simp [results, Try.results32, go_sem] <;> (first | (simp [ltQ, HP.out]; done) | (simp [ltQ, HP.out]; omega) | (rw [Bool.eq_iff_iff]; simp [ltQ, HP.out]; done) | (rw [Bool.eq_iff_iff]; simp [ltQ, HP.out]; omega))) rfl ⟨rfl, H.out⟩
  have z1 : (x0 == y0) = false := by simpa using h1
  go_wp2
  exact bodyPost_ret (v := .bool (decide (ltQ (x0, x1) (y0, y1)))) (by simp [results, Try.results32, go_sem] <;> (first | (simp [ltQ, h, h1]; done) | (simp [ltQ, h, h1]; omega) | (rw [Bool.eq_iff_iff]; simp [ltQ, h, h1]; done) | (rw [Bool.eq_iff_iff]; simp [ltQ, h, h1]; omega))) rfl ⟨rfl, H.out⟩
def prQ (a b : Int) : Qt := (min a b, max a b)
theorem pair_any (a b : Int) (w : World) : Calls Try.prog 34 #[.int .i64 a, .int .i64 b] w fun e w' => e = .returned (vQ (prQ a b)) ∧ Below w.heap.size w w' := by
  rcases Int.lt_or_le b a with h | h
  · have e1 : min a b = b := by omega
    have e2 : max a b = a := by omega
    have HE := Lib.hid (show prQ a b = (b, a) from by unfold prQ; rw [e1, e2])
    clear e1 e2
    go_enter Try.func34, Try.ntmps34
    go_wp2
    all_goals
      refine bodyPost_ret (v := vQ (b, a)) (by simp [results, Try.results34, go_sem] <;> omega) rfl ⟨by rw [HE.out], by go_grown⟩
  · have e1 : min a b = a := by omega
    have e2 : max a b = b := by omega
    have HE := Lib.hid (show prQ a b = (a, b) from by unfold prQ; rw [e1, e2])
    clear e1 e2
    go_enter Try.func34, Try.ntmps34
    go_wp2
    all_goals
      refine bodyPost_ret (v := vQ (a, b)) (by simp [results, Try.results34, go_sem] <;> omega) rfl ⟨by rw [HE.out], by go_grown⟩
end Go.Proofs.Ythgbkdaimnejeaa
