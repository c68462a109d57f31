/- The contracts of valid and Check (layer 42). -/
import Derived.Test.YthnhnmmabjmjgaaCalLeaf
namespace Go.Proofs.Ythnhnmmabjmjgaa
open Go.ChangeShapes Go.WideShapes Go.ChangeAt Go.RowKit Go.Sort

def okR (m : Rt) : Prop := (0 ≤ m.1 ∧ m.1 ≤ 15) ∧ (0 ≤ m.2.1 ∧ m.2.1 ≤ 1099511627776) ∧ (1 ≤ m.2.2.1 ∧ m.2.2.1 ≤ 16777216) ∧ (0 ≤ m.2.2.2.1 ∧ m.2.2.2.1 ≤ 1048576) ∧ (0 ≤ m.2.2.2.2 ∧ m.2.2.2.2 ≤ 1048576)
instance (m : Rt) : Decidable (okR m) := by unfold okR; exact inferInstance
def okTo (l : List Rt) (k : Nat) : Prop := ∀ i, i < k → okR (nthR l i) ∧ (0 < i → ltK (ky (nthR l (i - 1))) (ky (nthR l i)))
theorem okTo_succ (l : List Rt) (k : Nat) : okTo l (k + 1) ↔ okTo l k ∧ okR (nthR l k) ∧ (0 < k → ltK (ky (nthR l (k - 1))) (ky (nthR l k))) := by
  constructor
  · intro h; exact ⟨fun i hi => h i (by omega), h k (by omega)⟩
  · rintro ⟨h, h2⟩ i hi
    by_cases e : i = k
    · subst e; exact h2
    · exact h i (by omega)
def Recs (l : List Rt) : Prop := l.length ≤ 256 ∧ okTo l l.length
noncomputable def chkR (l : List Rt) : Int := by classical exact if 256 < l.length then 2 else if okTo l l.length then 0 else 420
theorem chkR_many {l : List Rt} (h : 256 < l.length) : chkR l = 2 := if_pos h
theorem chkR_no {l : List Rt} (h : l.length ≤ 256) (h2 : ¬ okTo l l.length) : chkR l = 420 := by unfold chkR; rw [if_neg (by omega), if_neg h2]
theorem chkR_yes {l : List Rt} (h : Recs l) : chkR l = 0 := by unfold chkR; rw [if_neg (by have := h.1; omega), if_pos h.2]
theorem chkR_cases (l : List Rt) : (256 < l.length ∧ chkR l = 2) ∨ (l.length ≤ 256 ∧ ¬ Recs l ∧ chkR l = 420) ∨ (Recs l ∧ chkR l = 0) := by
  by_cases h : 256 < l.length
  · exact .inl ⟨h, chkR_many h⟩
  by_cases h2 : okTo l l.length
  · exact .inr (.inr ⟨⟨by omega, h2⟩, chkR_yes ⟨by omega, h2⟩⟩)
  · exact .inr (.inl ⟨by omega, fun g => h2 g.2, chkR_no (by omega) h2⟩)

set_option maxRecDepth 100000 in
set_option maxHeartbeats 4000000 in
theorem valid_any (m : Rt) (w : World) : Calls Try.prog 41 #[vR m] w fun e w' => e = .returned (.bool (decide (okR m))) ∧ Below w.heap.size w w' := by
  obtain ⟨a, b, c, d, e⟩ := m
  dsimp only [vR]
  by_cases q0 : 0 ≤ a ∧ a ≤ 15
  case neg =>
    have v0 := within_f q0
    have E := Lib.hid (show decide (okR (a, b, c, d, e)) = false from decide_eq_false fun h => q0 h.1)
    clear q0
    go_enter Try.func41, Try.ntmps41
    go_wp2_with (first | (go_at_call 27; refine (within_any _ _ _ _).mono ?_; rintro e w' ⟨rfl, rfl⟩))
    go_ret
    exact ⟨ret_bool E.out.symm, by go_grown⟩
  by_cases q1 : 0 ≤ b ∧ b ≤ 1099511627776
  case neg =>
    have v0 := within_t q0
    have v1 := within_f q1
    have E := Lib.hid (show decide (okR (a, b, c, d, e)) = false from decide_eq_false fun h => q1 h.2.1)
    clear q0 q1
    go_enter Try.func41, Try.ntmps41
    go_wp2_with (first | (go_at_call 27; refine (within_any _ _ _ _).mono ?_; rintro e w' ⟨rfl, rfl⟩))
    go_ret
    exact ⟨ret_bool E.out.symm, by go_grown⟩
  by_cases q2 : 1 ≤ c ∧ c ≤ 16777216
  case neg =>
    have v0 := within_t q0
    have v1 := within_t q1
    have v2 := within_f q2
    have E := Lib.hid (show decide (okR (a, b, c, d, e)) = false from decide_eq_false fun h => q2 h.2.2.1)
    clear q0 q1 q2
    go_enter Try.func41, Try.ntmps41
    go_wp2_with (first | (go_at_call 27; refine (within_any _ _ _ _).mono ?_; rintro e w' ⟨rfl, rfl⟩))
    go_ret
    exact ⟨ret_bool E.out.symm, by go_grown⟩
  by_cases q3 : 0 ≤ d ∧ d ≤ 1048576
  case neg =>
    have v0 := within_t q0
    have v1 := within_t q1
    have v2 := within_t q2
    have v3 := within_f q3
    have E := Lib.hid (show decide (okR (a, b, c, d, e)) = false from decide_eq_false fun h => q3 h.2.2.2.1)
    clear q0 q1 q2 q3
    go_enter Try.func41, Try.ntmps41
    go_wp2_with (first | (go_at_call 27; refine (within_any _ _ _ _).mono ?_; rintro e w' ⟨rfl, rfl⟩))
    go_ret
    exact ⟨ret_bool E.out.symm, by go_grown⟩
  by_cases q4 : 0 ≤ e ∧ e ≤ 1048576
  case neg =>
    have v0 := within_t q0
    have v1 := within_t q1
    have v2 := within_t q2
    have v3 := within_t q3
    have v4 := within_f q4
    have E := Lib.hid (show decide (okR (a, b, c, d, e)) = false from decide_eq_false fun h => q4 h.2.2.2.2)
    clear q0 q1 q2 q3 q4
    go_enter Try.func41, Try.ntmps41
    go_wp2_with (first | (go_at_call 27; refine (within_any _ _ _ _).mono ?_; rintro e w' ⟨rfl, rfl⟩))
    go_ret
    exact ⟨ret_bool E.out.symm, by go_grown⟩
  have v0 := within_t q0
  have v1 := within_t q1
  have v2 := within_t q2
  have v3 := within_t q3
  have v4 := within_t q4
  have E := Lib.hid (show decide (okR (a, b, c, d, e)) = true from decide_eq_true ⟨q0, q1, q2, q3, q4⟩)
  clear q0 q1 q2 q3 q4
  go_enter Try.func41, Try.ntmps41
  go_wp2_with (first | (go_at_call 27; refine (within_any _ _ _ _).mono ?_; rintro e w' ⟨rfl, rfl⟩))
  go_ret
  exact ⟨ret_bool E.out.symm, by go_grown⟩
theorem valid_t (m : Rt) (w : World) (h : okR m) : Calls Try.prog 41 #[vR m] w fun e w' => e = .returned (.bool true) ∧ Below w.heap.size w w' := by
  have := valid_any m w; rwa [decide_eq_true h] at this
theorem valid_f (m : Rt) (w : World) (h : ¬ okR m) : Calls Try.prog 41 #[vR m] w fun e w' => e = .returned (.bool false) ∧ Below w.heap.size w w' := by
  have := valid_any m w; rwa [decide_eq_false h] at this

set_option maxRecDepth 100000 in
set_option maxHeartbeats 4000000 in
theorem check_any (a : Option Addr) (n cap b off : Nat) (l : List Rt) (w : World) (h : Rs w a n b off l) (hn : n ≤ 9223372036854775807) :
    Calls Try.prog 31 #[.slice a n cap] w fun e w' => e = .returned (.int .i64 (chkR l)) ∧ Below w.heap.size w w' := by
  have HM := Lib.hid h
  obtain ⟨hl, ha, hc⟩ := h
  by_cases hn2 : 256 < n
  · have e : chkR l = 2 := chkR_many (by rw [hl]; exact hn2)
    rw [e]
    clear hc ha hl
    go_enter Try.func31, Try.ntmps31
    go_wp2
    go_ret
    exact ⟨rfl, Below.refl _ _⟩
  have HL := Lib.hid (show _ ∧ _ from ⟨hl, ha⟩); have HC := Lib.hid hc; clear hl ha hc
  go_enter Try.func31, Try.ntmps31
  go_wp2
  go_loopw [10] (fun i wr => ∃ k : Nat, k ≤ n ∧ i = .int .i64 k ∧ okTo l k ∧ Below w.heap.size w wr) (fun i _ => n - (intOf i).toNat)
  case atStart => exact ⟨0, Nat.zero_le _, rfl, fun i hi => by omega, Below.refl _ _⟩
  case round =>
    obtain ⟨k, hk, rfl, hok, hb⟩ := hrel
    have HK := Lib.hid (show _ ∧ _ from ⟨hok, hb⟩); clear hok hb
    by_cases hlt : k < n
    case neg =>
      obtain rfl : k = n := by omega
      have E0 := Lib.hid (chkR_yes (l := l) ⟨by rw [HL.out.1]; omega, by rw [HL.out.1]; exact HK.out.1⟩)
      go_wp2
      go_ret
      exact ⟨ret_int E0.out.symm, HK.out.2⟩
    obtain ⟨rfl, hbw⟩ := HL.out.2 (by omega)
    obtain ⟨c0, c1, c2, c3, c4⟩ := (HM.out.grown HK.out.2).2.2 k hlt
    have hb0 := HK.out.2.size
    have hbad : ¬ okR (nthR l k) → chkR l = 420 := fun hx => chkR_no (by rw [HL.out.1]; omega) fun g => hx (g k (by rw [HL.out.1]; exact hlt)).1
    have hbad2 : 0 < k → ¬ ltK (ky (nthR l (k - 1))) (ky (nthR l k)) → chkR l = 420 := fun h1 hx => chkR_no (by rw [HL.out.1]; omega) fun g => hx ((g k (by rw [HL.out.1]; exact hlt)).2 h1)
    have hst := okTo_succ l k
    generalize hx : nthR l k = x at *
    obtain ⟨x0, x1, x2, x3, x4⟩ := x
    have HX := Lib.hid (show _ ∧ _ ∧ _ ∧ _ from ⟨hx, hbad, hbad2, hst⟩); clear hx hbad hbad2 hst
    dsimp only at c0 c1 c2 c3 c4
    obtain ⟨W2, hW2⟩ : ∃ W2, W2 = wr.alloc (.cells #[.int .i64 x0, .int .i64 x1, .int .i64 x2, .int .i64 x3, .int .i64 x4] 74) := ⟨_, rfl⟩
    have hb2 : Below wr.heap.size wr W2 := by rw [hW2]; exact (Below.refl _ _).alloc (Nat.le_refl _) _
    have hx2 : W2.heap[wr.heap.size]? = some (.cells #[.int .i64 x0, .int .i64 x1, .int .i64 x2, .int .i64 x3, .int .i64 x4] 74 (0, 0)) := by rw [hW2]; exact blk_new _ _
    have hB2 := below_after HK.out.2 hb2 hb0
    have H2 := Lib.hid (show _ ∧ _ from ⟨hB2, hx2⟩)
    have d0 := cell_regrown (blk_cell hx2 0); have d1 := cell_regrown (blk_cell hx2 1); have d2 := cell_regrown (blk_cell hx2 2); have d3 := cell_regrown (blk_cell hx2 3); have d4 := cell_regrown (blk_cell hx2 4)
    clear hb2 hx2 hB2
    by_cases hv : okR (x0, x1, x2, x3, x4)
    case neg =>
      have E0 := Lib.hid (HX.out.2.1 hv)
      go_wp2
      rw [← hW2]
      clear hW2 c0 c1 c2 c3 c4
      refine wp_region_quiet_below (by kernel_rfl) (by kernel_rfl) ?_
      repeat (go_big_quiet_step (((go_at_call 41; with_reducible exact Calls.regrown_of (valid_f (x0, x1, x2, x3, x4) _ hv)))))
      refine wpQuiet_nil ?_
      intro WQ hq'
      have hq := of_regrown hq'
      clear hq'
      go_wp2
      go_ret
      exact ⟨ret_int E0.out.symm, below_after H2.out.1 hq H2.out.1.size⟩
    cases k with
    | zero =>
      simp only [Nat.zero_mul, Nat.add_zero] at c0 c1 c2 c3 c4
      go_wp2
      rw [← hW2]
      clear hW2 c0 c1 c2 c3 c4
      refine wp_region_quiet_below (by kernel_rfl) (by kernel_rfl) ?_
      repeat (go_big_quiet_step (((go_at_call 41; with_reducible exact Calls.regrown_of (valid_t (x0, x1, x2, x3, x4) _ hv)))))
      refine wpQuiet_nil ?_
      intro WQ hq'
      have hq := of_regrown hq'
      clear hq'
      go_wp2
      go_roundw
      case rel => exact ⟨1, by omega, by go_num, HX.out.2.2.2.2 ⟨HK.out.1, hv, fun h => absurd h (by omega)⟩, below_after H2.out.1 hq H2.out.1.size⟩
      case measure => simp [intOf]; omega
    | succ j =>
      obtain ⟨p0, p1, p2, p3, p4⟩ := (HM.out.grown H2.out.1).2.2 j (by omega)
      have hj : (j : Int) < n := by omega
      have ng : decide (((j : Int) + 1) > 0) = true := by simp
      have ng2 : decide (0 < ((j + 1 : Nat) : Int)) = true := by simp
      have ng3 : decide (0 < ((j : Int) + 1)) = true := by simp
      have hbr : b < wr.heap.size := by omega
      have yb : nthR l (j + 1 - 1) = nthR l j := rfl
      generalize hy : nthR l j = y at *
      obtain ⟨y0, y1, y2, y3, y4⟩ := y
      have HY := Lib.hid (show _ ∧ _ from ⟨hy, yb⟩); clear hy yb
      dsimp only at p0 p1 p2 p3 p4
      replace p0 := cell_regrown p0; replace p1 := cell_regrown p1; replace p2 := cell_regrown p2; replace p3 := cell_regrown p3; replace p4 := cell_regrown p4
      by_cases q : ltK (ky (y0, y1, y2, y3, y4)) (ky (x0, x1, x2, x3, x4))
      · have z : decide (0 ≤ cmp3 (ky (y0, y1, y2, y3, y4)) (ky (x0, x1, x2, x3, x4))) = false := decide_eq_false (by have := cmp3_lt.2 q; omega)
        go_wp2
        rw [← hW2]
        clear hW2 c0 c1 c2 c3 c4
        refine wp_region_quiet_below (by kernel_rfl) (by kernel_rfl) ?_
        repeat (go_big_quiet_step (((first | (go_at_call 41; with_reducible exact Calls.regrown_of (valid_t (x0, x1, x2, x3, x4) _ hv)) | (go_at_call 43; first | with_reducible exact Calls.regrown_of (keyOf_any (y0, y1, y2, y3, y4) _) | with_reducible exact Calls.regrown_of (keyOf_any (x0, x1, x2, x3, x4) _)) | (go_at_call 42; with_reducible exact Calls.regrown_of (compare_any (ky (y0, y1, y2, y3, y4)) (ky (x0, x1, x2, x3, x4)) _))))))
        refine wpQuiet_nil ?_
        intro WQ hq'
        have hq := of_regrown hq'
        clear hq'
        go_wp2
        go_roundw
        case rel => exact ⟨j + 1 + 1, by omega, by go_num, HX.out.2.2.2.2 ⟨HK.out.1, hv, fun _ => by rw [HY.out.2]; exact q⟩, below_after H2.out.1 hq H2.out.1.size⟩
        case measure => simp [intOf]; omega
      · have z : decide (0 ≤ cmp3 (ky (y0, y1, y2, y3, y4)) (ky (x0, x1, x2, x3, x4))) = true := decide_eq_true (Int.not_lt.1 fun h => q (cmp3_lt.1 h))
        have E0 := Lib.hid (HX.out.2.2.1 (by omega) (by rw [HY.out.2]; exact q))
        go_wp2
        rw [← hW2]
        clear hW2 c0 c1 c2 c3 c4
        refine wp_region_quiet_below (by kernel_rfl) (by kernel_rfl) ?_
        repeat (go_big_quiet_step (((first | (go_at_call 41; with_reducible exact Calls.regrown_of (valid_t (x0, x1, x2, x3, x4) _ hv)) | (go_at_call 43; first | with_reducible exact Calls.regrown_of (keyOf_any (y0, y1, y2, y3, y4) _) | with_reducible exact Calls.regrown_of (keyOf_any (x0, x1, x2, x3, x4) _)) | (go_at_call 42; with_reducible exact Calls.regrown_of (compare_any (ky (y0, y1, y2, y3, y4)) (ky (x0, x1, x2, x3, x4)) _))))))
        refine wpQuiet_nil ?_
        intro WQ hq'
        have hq := of_regrown hq'
        clear hq'
        go_wp2
        go_ret
        exact ⟨ret_int E0.out.symm, below_after H2.out.1 hq H2.out.1.size⟩
end Go.Proofs.Ythnhnmmabjmjgaa
