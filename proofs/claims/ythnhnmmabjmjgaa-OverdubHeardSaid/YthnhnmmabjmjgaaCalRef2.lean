/- The reference's differ, Check and At; lists compared (layer 42). -/
import Derived.Test.YthnhnmmabjmjgaaCalRef
import Derived.ChangeKeysEq
import Derived.Laws.StructEq
namespace Go.Proofs.Ythnhnmmabjmjgaa
open Go.ChangeShapes Go.WideShapes Go.ChangeAt Go.RowKit Go.Sort Go.Shelf
set_option linter.unusedSimpArgs false

set_option maxRecDepth 100000 in
set_option maxHeartbeats 4000000 in
theorem rcheck_any (a : Option Addr) (n cap b off : Nat) (l : List Rt) (w : World) (h : Rs w a n b off l) (hn : n ≤ 9223372036854775807) :
    Calls Try.prog 39 #[.slice a n cap] w fun e w' => e = .returned (.int .i64 (chkR l)) ∧ Below w.heap.size w w' := by
  have HM := Lib.hid h
  obtain ⟨hl, ha, hc⟩ := h
  by_cases hn2 : 256 < n
  · have e : chkR l = 2 := chkR_many (by rw [hl]; exact hn2)
    rw [e]
    clear hc ha hl
    go_enter Try.func39, Try.ntmps39
    go_wp2
    go_ret
    exact ⟨rfl, Below.refl _ _⟩
  have HL := Lib.hid (show _ ∧ _ from ⟨hl, ha⟩); clear hl ha hc
  go_enter Try.func39, Try.ntmps39
  go_wp2
  go_loopw [3] (fun i wr => ∃ k : Nat, k ≤ n ∧ i = .int .i64 k ∧ okTo l k ∧ Below w.heap.size w wr) (fun i _ => n - (intOf i).toNat)
  case atStart => exact ⟨0, Nat.zero_le _, rfl, fun i hi => by omega, Below.refl _ _⟩
  case round =>
    obtain ⟨k, hk, rfl, hok, hb⟩ := hrel
    have HK := Lib.hid (show _ ∧ _ from ⟨hok, hb⟩); clear hok hb
    by_cases hlt : k < n
    case neg =>
      obtain rfl : k = n := by omega
      have E0 := Lib.hid (chkR_yes (l := l) ⟨by rw [HL.out.1]; omega, by rw [HL.out.1]; exact HK.out.1⟩)
      go_wp2
      go_ret
      exact ⟨ret_int E0.out.symm, HK.out.2⟩
    obtain ⟨rfl, hbw⟩ := HL.out.2 (by omega)
    obtain ⟨c0, c1, c2, c3, c4⟩ := (HM.out.grown HK.out.2).2.2 k hlt
    have hb0 := HK.out.2.size
    have hbad : ¬ okR (nthR l k) → chkR l = 420 := fun hx => chkR_no (by rw [HL.out.1]; omega) fun g => hx (g k (by rw [HL.out.1]; exact hlt)).1
    have hbad2 : 0 < k → ¬ ltK (ky (nthR l (k - 1))) (ky (nthR l k)) → chkR l = 420 := fun h1 hx => chkR_no (by rw [HL.out.1]; omega) fun g => hx ((g k (by rw [HL.out.1]; exact hlt)).2 h1)
    have hst := okTo_succ l k
    generalize hx : nthR l k = x at *
    obtain ⟨x0, x1, x2, x3, x4⟩ := x
    have HX := Lib.hid (show _ ∧ _ ∧ _ ∧ _ from ⟨hx, hbad, hbad2, hst⟩); clear hx hbad hbad2 hst
    dsimp only at c0 c1 c2 c3 c4
    replace c0 := cell_regrown c0; replace c1 := cell_regrown c1; replace c2 := cell_regrown c2; replace c3 := cell_regrown c3; replace c4 := cell_regrown c4
    have hkn : (k : Int) < n := by omega
    by_cases hv : okR (x0, x1, x2, x3, x4)
    case neg =>
      have E0 := Lib.hid (HX.out.2.1 hv)
      go_wp2
      refine wp_region_quiet_below (by kernel_rfl) (by kernel_rfl) ?_
      repeat (go_big_quiet_step (((go_at_call 51; with_reducible exact Calls.regrown_of (rvalid_f (x0, x1, x2, x3, x4) _ hv)))))
      refine wpQuiet_nil ?_
      intro WQ hq'
      have hq := of_regrown hq'
      clear hq'
      go_wp2
      go_ret
      exact ⟨ret_int E0.out.symm, below_after HK.out.2 hq hb0⟩
    cases k with
    | zero =>
      simp only [Nat.zero_mul, Nat.add_zero] at c0 c1 c2 c3 c4
      go_wp2
      refine wp_region_quiet_below (by kernel_rfl) (by kernel_rfl) ?_
      repeat (go_big_quiet_step (((go_at_call 51; with_reducible exact Calls.regrown_of (rvalid_t (x0, x1, x2, x3, x4) _ hv)))))
      refine wpQuiet_nil ?_
      intro WQ hq'
      have hq := of_regrown hq'
      clear hq'
      go_wp2
      go_roundw
      case rel => exact ⟨1, by omega, by go_num, HX.out.2.2.2.2 ⟨HK.out.1, hv, fun h => absurd h (by omega)⟩, below_after HK.out.2 hq hb0⟩
      case measure => simp [intOf]; omega
    | succ j =>
      obtain ⟨p0, p1, p2, p3, p4⟩ := (HM.out.grown HK.out.2).2.2 j (by omega)
      have hj : (j : Int) < n := by omega
      have ng : decide (((j : Int) + 1) > 0) = true := by simp
      have ng2 : decide (0 < ((j + 1 : Nat) : Int)) = true := by simp
      have ng3 : decide (0 < ((j : Int) + 1)) = true := by simp
      have yb : nthR l (j + 1 - 1) = nthR l j := rfl
      generalize hy : nthR l j = y at *
      obtain ⟨y0, y1, y2, y3, y4⟩ := y
      have HY := Lib.hid (show _ ∧ _ from ⟨hy, yb⟩); clear hy yb
      dsimp only at p0 p1 p2 p3 p4
      replace p0 := cell_regrown p0; replace p1 := cell_regrown p1; replace p2 := cell_regrown p2; replace p3 := cell_regrown p3; replace p4 := cell_regrown p4
      by_cases q : ltK (ky (y0, y1, y2, y3, y4)) (ky (x0, x1, x2, x3, x4))
      · go_wp2
        refine wp_region_quiet_below (by kernel_rfl) (by kernel_rfl) ?_
        repeat (go_big_quiet_step (((first | (go_at_call 51; with_reducible exact Calls.regrown_of (rvalid_t (x0, x1, x2, x3, x4) _ hv)) | (go_at_call 52; with_reducible exact Calls.regrown_of (rless_t (y0, y1, y2, y3, y4) (x0, x1, x2, x3, x4) _ q))))))
        refine wpQuiet_nil ?_
        intro WQ hq'
        have hq := of_regrown hq'
        clear hq'
        go_wp2
        go_roundw
        case rel => exact ⟨j + 1 + 1, by omega, by go_num, HX.out.2.2.2.2 ⟨HK.out.1, hv, fun _ => by rw [HY.out.2]; exact q⟩, below_after HK.out.2 hq hb0⟩
        case measure => simp [intOf]; omega
      · have E0 := Lib.hid (HX.out.2.2.1 (by omega) (by rw [HY.out.2]; exact q))
        go_wp2
        refine wp_region_quiet_below (by kernel_rfl) (by kernel_rfl) ?_
        repeat (go_big_quiet_step (((first | (go_at_call 51; with_reducible exact Calls.regrown_of (rvalid_t (x0, x1, x2, x3, x4) _ hv)) | (go_at_call 52; with_reducible exact Calls.regrown_of (rless_f (y0, y1, y2, y3, y4) (x0, x1, x2, x3, x4) _ q))))))
        refine wpQuiet_nil ?_
        intro WQ hq'
        have hq := of_regrown hq'
        clear hq'
        go_wp2
        go_ret
        exact ⟨ret_int E0.out.symm, below_after HK.out.2 hq hb0⟩

set_option maxRecDepth 100000 in
set_option maxHeartbeats 4000000 in
theorem rat_any (a : Option Addr) (n cap b off : Nat) (l : List Rt) (d p k : Int) (w : World) (h : Rs w a n b off l) (hn : n ≤ 9223372036854775807) :
    Calls Try.prog 30 #[.slice a n cap, .int .i64 d, .int .i64 p, .int .i64 k] w fun e w' => e = .returned (vA (atV l d p k)) ∧ Below w.heap.size w w' := by
  have HM := Lib.hid (show _ ∧ _ from ⟨h, h.1⟩)
  clear h
  go_enter Try.func30, Try.ntmps30
  go_wp2_with fail
  refine (rcheck_any a n cap b off l w HM.out.1 hn).mono ?_
  rintro e W1 ⟨rfl, hb1⟩
  have H1 := Lib.hid hb1
  clear hb1
  rcases chkR_cases l with ⟨hc1, hc2⟩ | ⟨hc1, hc0, hc2⟩ | ⟨hR, hc2⟩
  · have E := Lib.hid (atV_no (d := d) (p := p) (k := k) (l := l) (fun g => by have := g.1; omega))
    have E2 := Lib.hid hc2
    rw [hc2]
    clear hc2 hc1
    go_wp2
    exact bodyPost_ret (v := vA (0, 0, false, 2)) (by simp [results, Try.results30, go_sem]) rfl ⟨ret_at (by rw [E.out, E2.out]), H1.out⟩
  · have E := Lib.hid (atV_no (d := d) (p := p) (k := k) (l := l) hc0)
    have E2 := Lib.hid hc2
    rw [hc2]
    clear hc2 hc1 hc0
    go_wp2
    exact bodyPost_ret (v := vA (0, 0, false, 420)) (by simp [results, Try.results30, go_sem]) rfl ⟨ret_at (by rw [E.out, E2.out]), H1.out⟩
  have HR := Lib.hid hR
  rw [hc2]
  clear hc2 hR
  by_cases q0 : 0 ≤ d
  case neg =>
    have v0 : decide (d < 0) = true := decide_eq_true (by omega)
    have E := Lib.hid (atV_bad (d := d) (p := p) (k := k) HR.out (fun h => by unfold argOk at h; omega))
    clear q0
    go_wp2
    exact bodyPost_ret (v := vA (0, 0, false, 1)) (by simp [results, Try.results30, go_sem]) rfl ⟨ret_at E.out, H1.out⟩
  by_cases q1 : d < 16
  case neg =>
    have v0 : decide (d < 0) = false := decide_eq_false (by omega)
    have v1 : decide (16 ≤ d) = true := decide_eq_true (by omega)
    have E := Lib.hid (atV_bad (d := d) (p := p) (k := k) HR.out (fun h => by unfold argOk at h; omega))
    clear q0 q1
    go_wp2
    exact bodyPost_ret (v := vA (0, 0, false, 1)) (by simp [results, Try.results30, go_sem]) rfl ⟨ret_at E.out, H1.out⟩
  by_cases q2 : 0 ≤ p
  case neg =>
    have v0 : decide (d < 0) = false := decide_eq_false (by omega)
    have v1 : decide (16 ≤ d) = false := decide_eq_false (by omega)
    have v2 : decide (p < 0) = true := decide_eq_true (by omega)
    have E := Lib.hid (atV_bad (d := d) (p := p) (k := k) HR.out (fun h => by unfold argOk at h; omega))
    clear q0 q1 q2
    go_wp2
    exact bodyPost_ret (v := vA (0, 0, false, 1)) (by simp [results, Try.results30, go_sem]) rfl ⟨ret_at E.out, H1.out⟩
  by_cases q3 : p ≤ 1099511627776
  case neg =>
    have v0 : decide (d < 0) = false := decide_eq_false (by omega)
    have v1 : decide (16 ≤ d) = false := decide_eq_false (by omega)
    have v2 : decide (p < 0) = false := decide_eq_false (by omega)
    have v3 : decide (1099511627776 < p) = true := decide_eq_true (by omega)
    have E := Lib.hid (atV_bad (d := d) (p := p) (k := k) HR.out (fun h => by unfold argOk at h; omega))
    clear q0 q1 q2 q3
    go_wp2
    exact bodyPost_ret (v := vA (0, 0, false, 1)) (by simp [results, Try.results30, go_sem]) rfl ⟨ret_at E.out, H1.out⟩
  by_cases q4 : 0 ≤ k
  case neg =>
    have v0 : decide (d < 0) = false := decide_eq_false (by omega)
    have v1 : decide (16 ≤ d) = false := decide_eq_false (by omega)
    have v2 : decide (p < 0) = false := decide_eq_false (by omega)
    have v3 : decide (1099511627776 < p) = false := decide_eq_false (by omega)
    have v4 : decide (k < 0) = true := decide_eq_true (by omega)
    have E := Lib.hid (atV_bad (d := d) (p := p) (k := k) HR.out (fun h => by unfold argOk at h; omega))
    clear q0 q1 q2 q3 q4
    go_wp2
    exact bodyPost_ret (v := vA (0, 0, false, 1)) (by simp [results, Try.results30, go_sem]) rfl ⟨ret_at E.out, H1.out⟩
  by_cases q5 : k ≤ 16777216
  case neg =>
    have v0 : decide (d < 0) = false := decide_eq_false (by omega)
    have v1 : decide (16 ≤ d) = false := decide_eq_false (by omega)
    have v2 : decide (p < 0) = false := decide_eq_false (by omega)
    have v3 : decide (1099511627776 < p) = false := decide_eq_false (by omega)
    have v4 : decide (k < 0) = false := decide_eq_false (by omega)
    have v5 : decide (16777216 < k) = true := decide_eq_true (by omega)
    have E := Lib.hid (atV_bad (d := d) (p := p) (k := k) HR.out (fun h => by unfold argOk at h; omega))
    clear q0 q1 q2 q3 q4 q5
    go_wp2
    exact bodyPost_ret (v := vA (0, 0, false, 1)) (by simp [results, Try.results30, go_sem]) rfl ⟨ret_at E.out, H1.out⟩
  have v0 : decide (d < 0) = false := decide_eq_false (by omega)
  have v1 : decide (16 ≤ d) = false := decide_eq_false (by omega)
  have v2 : decide (p < 0) = false := decide_eq_false (by omega)
  have v3 : decide (1099511627776 < p) = false := decide_eq_false (by omega)
  have v4 : decide (k < 0) = false := decide_eq_false (by omega)
  have v5 : decide (16777216 < k) = false := decide_eq_false (by omega)
  have E := Lib.hid (atV_yes (d := d) (p := p) (k := k) HR.out (by unfold argOk; omega))
  clear q0 q1 q2 q3 q4 q5
  go_wp2_with (go_at_call 40; refine (find_any a n cap b off l d p k W1 (HM.out.1.grown H1.out) hn).mono ?_; rintro e W2 ⟨rfl, hb2⟩)
  have H2 := Lib.hid (below_after H1.out hb2 H1.out.size)
  clear hb2
  have hfc := fnd_cnt l d p k l.length
  generalize fnd l d p k l.length = x at *
  obtain ⟨⟨x0, x1, x2, x3, x4⟩, xb⟩ := x
  have E3 := Lib.hid (show atV l d p k = (x3, x4, xb, 0) from by rw [E.out, hfc])
  clear hfc
  have g1 := blk_new W2 (.cells #[.int .i64 x0, .int .i64 x1, .int .i64 x2, .int .i64 x3, .int .i64 x4] 74)
  have hB2 := H2.out.alloc H2.out.size (.cells #[.int .i64 x0, .int .i64 x1, .int .i64 x2, .int .i64 x3, .int .i64 x4] 74)
  have HG := Lib.hid (show _ ∧ _ from ⟨g1, hB2⟩)
  have d3 := cell_regrown (blk_cell g1 3); have d4 := cell_regrown (blk_cell g1 4)
  simp at d3 d4
  clear g1 hB2
  refine wp_region_quiet_below (by kernel_rfl) (by kernel_rfl) ?_
  repeat (go_big_quiet_step ((fail)))
  refine wpQuiet_nil ?_
  intro WQ hq'
  have hq := of_regrown hq'
  clear hq'
  go_wp2
  exact bodyPost_ret (v := vA (x3, x4, xb, 0)) (by simp [results, Try.results30, go_sem]) rfl ⟨ret_at E3.out, below_after HG.out.2 hq HG.out.2.size⟩

theorem run_neq_R (x y : Rt) (w : World) : (binOp .neq 74 (.agg (encR x).toArray) (.agg (encR y).toArray)).run Try.prog w = .ok (.bool (!decide (x = y))) w := by
  obtain ⟨x0, x1, x2, x3, x4⟩ := x
  obtain ⟨y0, y1, y2, y3, y4⟩ := y
  dsimp only [encR]
  go_simp
  by_cases h0 : x0 = y0 <;> by_cases h1 : x1 = y1 <;> by_cases h2 : x2 = y2 <;> by_cases h3 : x3 = y3 <;> by_cases h4 : x4 = y4 <;> simp [h0, h1, h2, h3, h4]
end Go.Proofs.Ythnhnmmabjmjgaa
