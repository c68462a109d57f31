/- The reference's differ, Check and At; lists compared (layer 42). -/
import Derived.Test.YtjedpemjifcciaaCalRef
import Derived.Test.YtjedpemjifcciaaCalChgM
import Derived.ChangeKeysEq
import Derived.Laws.StructEq
namespace Go.Proofs.Ytjedpemjifcciaa
open Go.ChangeShapes Go.WideShapes Go.ChangeAt Go.RowKit Go.Sort Go.Shelf
set_option linter.unusedSimpArgs false

set_option maxRecDepth 100000 in
set_option maxHeartbeats 4000000 in
theorem differ_any (a : Option Addr) (n cap b off : Nat) (l : List Rt) (d p bef aft : Int) (w : World) (h : Rs w a n b off l) (hn : n ≤ 9223372036854775807) :
    Calls Try.prog 31 #[.slice a n cap, .int .i64 d, .int .i64 p, .int .i64 bef, .int .i64 aft] w fun e w' => e = .returned (.bool (decide (cnt l d p bef l.length ≠ cnt l d p aft l.length))) ∧ Below w.heap.size w w' := by
  have HM := Lib.hid h
  clear h
  go_enter Try.func31, Try.ntmps31
  go_wp2_with fail
  refine (find_any a n cap b off l d p bef w HM.out hn).mono ?_
  rintro e W1 ⟨rfl, hb1⟩
  have hc1 := fnd_cnt l d p bef l.length
  generalize fnd l d p bef l.length = x at *
  obtain ⟨⟨x0, x1, x2, x3, x4⟩, xb⟩ := x
  have HC1 := Lib.hid hc1
  have g1 := blk_new W1 (.cells #[.int .i64 x0, .int .i64 x1, .int .i64 x2, .int .i64 x3, .int .i64 x4] 24)
  have hB1 := hb1.alloc hb1.size (.cells #[.int .i64 x0, .int .i64 x1, .int .i64 x2, .int .i64 x3, .int .i64 x4] 24)
  have H1 := Lib.hid (show _ ∧ _ from ⟨g1, hB1⟩)
  have hs1 : W1.heap.size < (W1.alloc (.cells #[.int .i64 x0, .int .i64 x1, .int .i64 x2, .int .i64 x3, .int .i64 x4] 24)).heap.size := by simp
  clear hc1 hb1 g1 hB1
  go_wp2_with fail
  generalize W1.alloc (.cells #[.int .i64 x0, .int .i64 x1, .int .i64 x2, .int .i64 x3, .int .i64 x4] 24) = W2 at *
  generalize hX : W1.heap.size = X at *
  have HX := Lib.hid hX
  clear hX
  refine (find_any a n cap b off l d p aft W2 (HM.out.grown H1.out.2) hn).mono ?_
  rintro e W3 ⟨rfl, hb3⟩
  have hc2 := fnd_cnt l d p aft l.length
  generalize fnd l d p aft l.length = y at *
  obtain ⟨⟨y0, y1, y2, y3, y4⟩, yb⟩ := y
  have k1 := blk_below H1.out.1 hb3 hs1
  have c3 : W3.cell? ⟨X, 3, none⟩ = some (.int .i64 x3) := blk_cell k1 3
  have c4 : W3.cell? ⟨X, 4, none⟩ = some (.int .i64 x4) := blk_cell k1 4
  have hX3 : X < W3.heap.size := by have := hb3.size; omega
  have hB := (below_after H1.out.2 hb3 H1.out.2.size)
  have H3 := Lib.hid (show _ ∧ _ ∧ _ from ⟨hc2, hB, hB.size⟩)
  have E : decide (cnt l d p bef l.length ≠ cnt l d p aft l.length) = (decide (x3 ≠ y3) || (decide (x4 ≠ y4) || decide (xb ≠ yb))) := by
    rw [HC1.out, hc2, Bool.eq_iff_iff]; simp
  have HE := Lib.hid E
  clear hc2 k1 hb3 hB E hs1
  by_cases q3 : x3 = y3
  case neg =>
    have z3 : (x3 != y3) = true := by simpa using q3
    have E2 := Lib.hid (show decide (cnt l d p bef l.length ≠ cnt l d p aft l.length) = true from by rw [HE.out, decide_eq_true q3]; rfl)
    clear q3
    go_wp2
    go_ret
    exact ⟨ret_bool E2.out.symm, H3.out.2.1.alloc H3.out.2.2 _⟩
  have z3 : (x3 != y3) = false := by simpa using q3
  by_cases q4 : x4 = y4
  case neg =>
    have z4 : (x4 != y4) = true := by simpa using q4
    have E2 := Lib.hid (show decide (cnt l d p bef l.length ≠ cnt l d p aft l.length) = true from by rw [HE.out, decide_eq_true q4]; simp)
    clear q3 q4
    go_wp2
    go_ret
    exact ⟨ret_bool E2.out.symm, H3.out.2.1.alloc H3.out.2.2 _⟩
  have z4 : (x4 != y4) = false := by simpa using q4
  have E2 := Lib.hid (show decide (cnt l d p bef l.length ≠ cnt l d p aft l.length) = decide (xb ≠ yb) from by rw [HE.out, decide_eq_false (fun h => h q3), decide_eq_false (fun h => h q4)]; rfl)
  clear q3 q4
  cases xb <;> cases yb
  all_goals
    go_wp2
    go_ret
    exact ⟨ret_bool (by rw [E2.out]; rfl), H3.out.2.1.alloc H3.out.2.2 _⟩

set_option maxRecDepth 100000 in
set_option maxHeartbeats 4000000 in
theorem rcheck_any (a : Option Addr) (n cap b off : Nat) (l : List Rt) (w : World) (h : Rs w a n b off l) (hn : n ≤ 9223372036854775807) :
    Calls Try.prog 13 #[.slice a n cap] w fun e w' => e = .returned (.int .i64 (chkR l)) ∧ Below w.heap.size w w' := by
  have HM := Lib.hid h
  obtain ⟨hl, ha, hc⟩ := h
  by_cases hn2 : 256 < n
  · have e : chkR l = 2 := chkR_many (by rw [hl]; exact hn2)
    rw [e]
    clear hc ha hl
    go_enter Try.func13, Try.ntmps13
    go_wp2
    go_ret
    exact ⟨rfl, Below.refl _ _⟩
  have HL := Lib.hid (show _ ∧ _ from ⟨hl, ha⟩); clear hl ha hc
  go_enter Try.func13, Try.ntmps13
  go_wp2
  go_loopw [3] (fun i wr => ∃ k : Nat, k ≤ n ∧ i = .int .i64 k ∧ okTo l k ∧ Below w.heap.size w wr) (fun i _ => n - (intOf i).toNat)
  case atStart => exact ⟨0, Nat.zero_le _, rfl, fun i hi => by omega, Below.refl _ _⟩
  case round =>
    obtain ⟨k, hk, rfl, hok, hb⟩ := hrel
    have HK := Lib.hid (show _ ∧ _ from ⟨hok, hb⟩); clear hok hb
    by_cases hlt : k < n
    case neg =>
      obtain rfl : k = n := by omega
      have E0 := Lib.hid (chkR_yes (l := l) ⟨by rw [HL.out.1]; omega, by rw [HL.out.1]; exact HK.out.1⟩)
      go_wp2
      go_ret
      exact ⟨ret_int E0.out.symm, HK.out.2⟩
    obtain ⟨rfl, hbw⟩ := HL.out.2 (by omega)
    obtain ⟨c0, c1, c2, c3, c4⟩ := (HM.out.grown HK.out.2).2.2 k hlt
    have hb0 := HK.out.2.size
    have hbad : ¬ okR (nthR l k) → chkR l = 420 := fun hx => chkR_no (by rw [HL.out.1]; omega) fun g => hx (g k (by rw [HL.out.1]; exact hlt)).1
    have hbad2 : 0 < k → ¬ ltK (ky (nthR l (k - 1))) (ky (nthR l k)) → chkR l = 420 := fun h1 hx => chkR_no (by rw [HL.out.1]; omega) fun g => hx ((g k (by rw [HL.out.1]; exact hlt)).2 h1)
    have hst := okTo_succ l k
    generalize hx : nthR l k = x at *
    obtain ⟨x0, x1, x2, x3, x4⟩ := x
    have HX := Lib.hid (show _ ∧ _ ∧ _ ∧ _ from ⟨hx, hbad, hbad2, hst⟩); clear hx hbad hbad2 hst
    dsimp only at c0 c1 c2 c3 c4
    replace c0 := cell_regrown c0; replace c1 := cell_regrown c1; replace c2 := cell_regrown c2; replace c3 := cell_regrown c3; replace c4 := cell_regrown c4
    have hkn : (k : Int) < n := by omega
    by_cases hv : okR (x0, x1, x2, x3, x4)
    case neg =>
      have E0 := Lib.hid (HX.out.2.1 hv)
      go_wp2
      refine wp_region_quiet_below (by kernel_rfl) (by kernel_rfl) ?_
      repeat (go_big_quiet_step (((go_at_call 25; with_reducible exact Calls.regrown_of (rvalid_f (x0, x1, x2, x3, x4) _ hv)))))
      refine wpQuiet_nil ?_
      intro WQ hq'
      have hq := of_regrown hq'
      clear hq'
      go_wp2
      go_ret
      exact ⟨ret_int E0.out.symm, below_after HK.out.2 hq hb0⟩
    cases k with
    | zero =>
      simp only [Nat.zero_mul, Nat.add_zero] at c0 c1 c2 c3 c4
      go_wp2
      refine wp_region_quiet_below (by kernel_rfl) (by kernel_rfl) ?_
      repeat (go_big_quiet_step (((go_at_call 25; with_reducible exact Calls.regrown_of (rvalid_t (x0, x1, x2, x3, x4) _ hv)))))
      refine wpQuiet_nil ?_
      intro WQ hq'
      have hq := of_regrown hq'
      clear hq'
      go_wp2
      go_roundw
      case rel => exact ⟨1, by omega, by go_num, HX.out.2.2.2.2 ⟨HK.out.1, hv, fun h => absurd h (by omega)⟩, below_after HK.out.2 hq hb0⟩
      case measure => simp [intOf]; omega
    | succ j =>
      obtain ⟨p0, p1, p2, p3, p4⟩ := (HM.out.grown HK.out.2).2.2 j (by omega)
      have hj : (j : Int) < n := by omega
      have ng : decide (((j : Int) + 1) > 0) = true := by simp
      have ng2 : decide (0 < ((j + 1 : Nat) : Int)) = true := by simp
      have ng3 : decide (0 < ((j : Int) + 1)) = true := by simp
      have yb : nthR l (j + 1 - 1) = nthR l j := rfl
      generalize hy : nthR l j = y at *
      obtain ⟨y0, y1, y2, y3, y4⟩ := y
      have HY := Lib.hid (show _ ∧ _ from ⟨hy, yb⟩); clear hy yb
      dsimp only at p0 p1 p2 p3 p4
      replace p0 := cell_regrown p0; replace p1 := cell_regrown p1; replace p2 := cell_regrown p2; replace p3 := cell_regrown p3; replace p4 := cell_regrown p4
      by_cases q : ltK (ky (y0, y1, y2, y3, y4)) (ky (x0, x1, x2, x3, x4))
      · go_wp2
        refine wp_region_quiet_below (by kernel_rfl) (by kernel_rfl) ?_
        repeat (go_big_quiet_step (((first | (go_at_call 25; with_reducible exact Calls.regrown_of (rvalid_t (x0, x1, x2, x3, x4) _ hv)) | (go_at_call 26; with_reducible exact Calls.regrown_of (rless_t (y0, y1, y2, y3, y4) (x0, x1, x2, x3, x4) _ q))))))
        refine wpQuiet_nil ?_
        intro WQ hq'
        have hq := of_regrown hq'
        clear hq'
        go_wp2
        go_roundw
        case rel => exact ⟨j + 1 + 1, by omega, by go_num, HX.out.2.2.2.2 ⟨HK.out.1, hv, fun _ => by rw [HY.out.2]; exact q⟩, below_after HK.out.2 hq hb0⟩
        case measure => simp [intOf]; omega
      · have E0 := Lib.hid (HX.out.2.2.1 (by omega) (by rw [HY.out.2]; exact q))
        go_wp2
        refine wp_region_quiet_below (by kernel_rfl) (by kernel_rfl) ?_
        repeat (go_big_quiet_step (((first | (go_at_call 25; with_reducible exact Calls.regrown_of (rvalid_t (x0, x1, x2, x3, x4) _ hv)) | (go_at_call 26; with_reducible exact Calls.regrown_of (rless_f (y0, y1, y2, y3, y4) (x0, x1, x2, x3, x4) _ q))))))
        refine wpQuiet_nil ?_
        intro WQ hq'
        have hq := of_regrown hq'
        clear hq'
        go_wp2
        go_ret
        exact ⟨ret_int E0.out.symm, below_after HK.out.2 hq hb0⟩

set_option maxRecDepth 100000 in
set_option maxHeartbeats 4000000 in
theorem rat_any (a : Option Addr) (n cap b off : Nat) (l : List Rt) (d p k : Int) (w : World) (h : Rs w a n b off l) (hn : n ≤ 9223372036854775807) :
    Calls Try.prog 16 #[.slice a n cap, .int .i64 d, .int .i64 p, .int .i64 k] w fun e w' => e = .returned (vA (atV l d p k)) ∧ Below w.heap.size w w' := by
  have HM := Lib.hid (show _ ∧ _ from ⟨h, h.1⟩)
  clear h
  go_enter Try.func16, Try.ntmps16
  go_wp2_with fail
  refine (rcheck_any a n cap b off l w HM.out.1 hn).mono ?_
  rintro e W1 ⟨rfl, hb1⟩
  have H1 := Lib.hid hb1
  clear hb1
  rcases chkR_cases l with ⟨hc1, hc2⟩ | ⟨hc1, hc0, hc2⟩ | ⟨hR, hc2⟩
  · have E := Lib.hid (atV_no (d := d) (p := p) (k := k) (l := l) (fun g => by have := g.1; omega))
    have E2 := Lib.hid hc2
    rw [hc2]
    clear hc2 hc1
    go_wp2
    exact bodyPost_ret (v := vA (0, 0, false, 2)) (by simp [results, Try.results16, go_sem]) rfl ⟨ret_at (by rw [E.out, E2.out]), H1.out⟩
  · have E := Lib.hid (atV_no (d := d) (p := p) (k := k) (l := l) hc0)
    have E2 := Lib.hid hc2
    rw [hc2]
    clear hc2 hc1 hc0
    go_wp2
    exact bodyPost_ret (v := vA (0, 0, false, 420)) (by simp [results, Try.results16, go_sem]) rfl ⟨ret_at (by rw [E.out, E2.out]), H1.out⟩
  have HR := Lib.hid hR
  rw [hc2]
  clear hc2 hR
  by_cases q0 : 0 ≤ d
  case neg =>
    have v0 : decide (d < 0) = true := decide_eq_true (by omega)
    have E := Lib.hid (atV_bad (d := d) (p := p) (k := k) HR.out (fun h => by unfold argOk at h; omega))
    clear q0
    go_wp2
    exact bodyPost_ret (v := vA (0, 0, false, 1)) (by simp [results, Try.results16, go_sem]) rfl ⟨ret_at E.out, H1.out⟩
  by_cases q1 : d < 16
  case neg =>
    have v0 : decide (d < 0) = false := decide_eq_false (by omega)
    have v1 : decide (16 ≤ d) = true := decide_eq_true (by omega)
    have E := Lib.hid (atV_bad (d := d) (p := p) (k := k) HR.out (fun h => by unfold argOk at h; omega))
    clear q0 q1
    go_wp2
    exact bodyPost_ret (v := vA (0, 0, false, 1)) (by simp [results, Try.results16, go_sem]) rfl ⟨ret_at E.out, H1.out⟩
  by_cases q2 : 0 ≤ p
  case neg =>
    have v0 : decide (d < 0) = false := decide_eq_false (by omega)
    have v1 : decide (16 ≤ d) = false := decide_eq_false (by omega)
    have v2 : decide (p < 0) = true := decide_eq_true (by omega)
    have E := Lib.hid (atV_bad (d := d) (p := p) (k := k) HR.out (fun h => by unfold argOk at h; omega))
    clear q0 q1 q2
    go_wp2
    exact bodyPost_ret (v := vA (0, 0, false, 1)) (by simp [results, Try.results16, go_sem]) rfl ⟨ret_at E.out, H1.out⟩
  by_cases q3 : p ≤ 1099511627776
  case neg =>
    have v0 : decide (d < 0) = false := decide_eq_false (by omega)
    have v1 : decide (16 ≤ d) = false := decide_eq_false (by omega)
    have v2 : decide (p < 0) = false := decide_eq_false (by omega)
    have v3 : decide (1099511627776 < p) = true := decide_eq_true (by omega)
    have E := Lib.hid (atV_bad (d := d) (p := p) (k := k) HR.out (fun h => by unfold argOk at h; omega))
    clear q0 q1 q2 q3
    go_wp2
    exact bodyPost_ret (v := vA (0, 0, false, 1)) (by simp [results, Try.results16, go_sem]) rfl ⟨ret_at E.out, H1.out⟩
  by_cases q4 : 0 ≤ k
  case neg =>
    have v0 : decide (d < 0) = false := decide_eq_false (by omega)
    have v1 : decide (16 ≤ d) = false := decide_eq_false (by omega)
    have v2 : decide (p < 0) = false := decide_eq_false (by omega)
    have v3 : decide (1099511627776 < p) = false := decide_eq_false (by omega)
    have v4 : decide (k < 0) = true := decide_eq_true (by omega)
    have E := Lib.hid (atV_bad (d := d) (p := p) (k := k) HR.out (fun h => by unfold argOk at h; omega))
    clear q0 q1 q2 q3 q4
    go_wp2
    exact bodyPost_ret (v := vA (0, 0, false, 1)) (by simp [results, Try.results16, go_sem]) rfl ⟨ret_at E.out, H1.out⟩
  by_cases q5 : k ≤ 16777216
  case neg =>
    have v0 : decide (d < 0) = false := decide_eq_false (by omega)
    have v1 : decide (16 ≤ d) = false := decide_eq_false (by omega)
    have v2 : decide (p < 0) = false := decide_eq_false (by omega)
    have v3 : decide (1099511627776 < p) = false := decide_eq_false (by omega)
    have v4 : decide (k < 0) = false := decide_eq_false (by omega)
    have v5 : decide (16777216 < k) = true := decide_eq_true (by omega)
    have E := Lib.hid (atV_bad (d := d) (p := p) (k := k) HR.out (fun h => by unfold argOk at h; omega))
    clear q0 q1 q2 q3 q4 q5
    go_wp2
    exact bodyPost_ret (v := vA (0, 0, false, 1)) (by simp [results, Try.results16, go_sem]) rfl ⟨ret_at E.out, H1.out⟩
  have v0 : decide (d < 0) = false := decide_eq_false (by omega)
  have v1 : decide (16 ≤ d) = false := decide_eq_false (by omega)
  have v2 : decide (p < 0) = false := decide_eq_false (by omega)
  have v3 : decide (1099511627776 < p) = false := decide_eq_false (by omega)
  have v4 : decide (k < 0) = false := decide_eq_false (by omega)
  have v5 : decide (16777216 < k) = false := decide_eq_false (by omega)
  have E := Lib.hid (atV_yes (d := d) (p := p) (k := k) HR.out (by unfold argOk; omega))
  clear q0 q1 q2 q3 q4 q5
  go_wp2_with (go_at_call 29; refine (find_any a n cap b off l d p k W1 (HM.out.1.grown H1.out) hn).mono ?_; rintro e W2 ⟨rfl, hb2⟩)
  have H2 := Lib.hid (below_after H1.out hb2 H1.out.size)
  clear hb2
  have hfc := fnd_cnt l d p k l.length
  generalize fnd l d p k l.length = x at *
  obtain ⟨⟨x0, x1, x2, x3, x4⟩, xb⟩ := x
  have E3 := Lib.hid (show atV l d p k = (x3, x4, xb, 0) from by rw [E.out, hfc])
  clear hfc
  have g1 := blk_new W2 (.cells #[.int .i64 x0, .int .i64 x1, .int .i64 x2, .int .i64 x3, .int .i64 x4] 24)
  have hB2 := H2.out.alloc H2.out.size (.cells #[.int .i64 x0, .int .i64 x1, .int .i64 x2, .int .i64 x3, .int .i64 x4] 24)
  have HG := Lib.hid (show _ ∧ _ from ⟨g1, hB2⟩)
  have d3 := cell_regrown (blk_cell g1 3); have d4 := cell_regrown (blk_cell g1 4)
  simp at d3 d4
  clear g1 hB2
  refine wp_region_quiet_below (by kernel_rfl) (by kernel_rfl) ?_
  repeat (go_big_quiet_step ((fail)))
  refine wpQuiet_nil ?_
  intro WQ hq'
  have hq := of_regrown hq'
  clear hq'
  go_wp2
  exact bodyPost_ret (v := vA (x3, x4, xb, 0)) (by simp [results, Try.results16, go_sem]) rfl ⟨ret_at E3.out, below_after HG.out.2 hq HG.out.2.size⟩

theorem run_neq_R (x y : Rt) (w : World) : (binOp .neq 24 (.agg (encR x).toArray) (.agg (encR y).toArray)).run Try.prog w = .ok (.bool (!decide (x = y))) w := by
  obtain ⟨x0, x1, x2, x3, x4⟩ := x
  obtain ⟨y0, y1, y2, y3, y4⟩ := y
  dsimp only [encR]
  go_simp
  by_cases h0 : x0 = y0 <;> by_cases h1 : x1 = y1 <;> by_cases h2 : x2 = y2 <;> by_cases h3 : x3 = y3 <;> by_cases h4 : x4 = y4 <;> simp [h0, h1, h2, h3, h4]
theorem list_ne_atR {xs ys : List Rt} {k : Nat} (h : nthR xs k ≠ nthR ys k) : xs ≠ ys := fun e => h (by rw [e])
theorem list_eq_atR {xs ys : List Rt} (hl : xs.length = ys.length) (h : ∀ k, k < xs.length → nthR xs k = nthR ys k) : xs = ys := by
  refine List.ext_getElem hl fun k h1 h2 => ?_
  have := h k h1
  simpa [nthR, List.getD_eq_getElem?_getD, List.getElem?_eq_getElem h1, List.getElem?_eq_getElem h2] using this
set_option maxRecDepth 100000 in
set_option maxHeartbeats 4000000 in
theorem rsame_any (a : Option Addr) (n cap b off : Nat) (xs : List Rt) (a' : Option Addr) (n' cap' b' off' : Nat) (ys : List Rt) (w : World) (h : Rs w a n b off xs) (h' : Rs w a' n' b' off' ys) (hn : n ≤ 9223372036854775807) (hn' : n' ≤ 9223372036854775807) :
    Calls Try.prog 14 #[.slice a n cap, .slice a' n' cap'] w fun e w' => e = .returned (.bool (decide (xs = ys))) ∧ Below w.heap.size w w' := by
  have HM := Lib.hid (show _ ∧ _ from ⟨h, h'⟩)
  have HL := Lib.hid (show _ ∧ _ from ⟨h.1, h'.1⟩)
  clear h h'
  by_cases hnn : n = n'
  case neg =>
    have z : ((n : Int) != (n' : Int)) = true := by simp; omega
    have E := Lib.hid (show decide (xs = ys) = false from decide_eq_false fun e => hnn (by rw [← HL.out.1, ← HL.out.2, e]))
    clear hnn
    go_enter Try.func14, Try.ntmps14
    go_wp2
    go_ret
    exact ⟨ret_bool E.out.symm, Below.refl _ _⟩
  obtain rfl : n = n' := hnn
  go_enter Try.func14, Try.ntmps14
  go_wp2
  go_loopw [5] (fun i wr => ∃ k : Nat, k ≤ n ∧ i = .int .i64 k ∧ (∀ j, j < k → nthR xs j = nthR ys j) ∧ Below w.heap.size w wr) (fun i _ => n - (intOf i).toNat)
  case atStart => exact ⟨0, Nat.zero_le _, rfl, fun i hi => by omega, Below.refl _ _⟩
  case round =>
    obtain ⟨k, hk, rfl, hok, hb⟩ := hrel
    have HK := Lib.hid (show _ ∧ _ from ⟨hok, hb⟩); clear hok hb
    by_cases hlt : k < n
    case neg =>
      obtain rfl : k = n := by omega
      have E := Lib.hid (show decide (xs = ys) = true from decide_eq_true (list_eq_atR (by rw [HL.out.1, HL.out.2]) fun j hj => HK.out.1 j (by rw [← HL.out.1]; exact hj)))
      go_wp2
      go_ret
      exact ⟨ret_bool E.out.symm, HK.out.2⟩
    obtain ⟨rfl, hbw⟩ := HM.out.1.2.1 (by omega)
    obtain ⟨rfl, hbw'⟩ := HM.out.2.2.1 (by omega)
    obtain ⟨c0, c1, c2, c3, c4⟩ := (HM.out.1.grown HK.out.2).2.2 k hlt
    obtain ⟨d0, d1, d2, d3, d4⟩ := (HM.out.2.grown HK.out.2).2.2 k hlt
    have hne := fun h => list_ne_atR (xs := xs) (ys := ys) (k := k) h
    have hnx : ∀ j, j < k + 1 → nthR xs k = nthR ys k → nthR xs j = nthR ys j := fun j hj h => by
      by_cases e : j = k
      · subst e; exact h
      · exact HK.out.1 j (by omega)
    generalize hx : nthR xs k = x at *
    generalize hy : nthR ys k = y at *
    have HX := Lib.hid (show _ ∧ _ from ⟨hne, hnx⟩)
    clear hx hy hne hnx
    have hrun := run_neq_R x y
    obtain ⟨x0, x1, x2, x3, x4⟩ := x
    obtain ⟨y0, y1, y2, y3, y4⟩ := y
    dsimp only at c0 c1 c2 c3 c4 d0 d1 d2 d3 d4
    replace c0 := cell_regrown c0; replace c1 := cell_regrown c1; replace c2 := cell_regrown c2; replace c3 := cell_regrown c3; replace c4 := cell_regrown c4
    replace d0 := cell_regrown d0; replace d1 := cell_regrown d1; replace d2 := cell_regrown d2; replace d3 := cell_regrown d3; replace d4 := cell_regrown d4
    dsimp only [encR] at hrun
    by_cases q : ((x0, x1, x2, x3, x4) : Rt) = (y0, y1, y2, y3, y4)
    · rw [decide_eq_true q] at hrun
      have HQ := Lib.hid q
      clear q
      go_wp2
      refine wp_region_quiet_below (by kernel_rfl) (by kernel_rfl) ?_
      repeat (go_big_quiet_step ((fail)))
      refine wpQuiet_nil ?_
      intro WQ hq'
      have hq := of_regrown hq'
      clear hq'
      go_wp2
      go_roundw
      case rel => exact ⟨k + 1, by omega, by go_num, fun j hj => HX.out.2 j hj HQ.out, below_after HK.out.2 hq HK.out.2.size⟩
      case measure => simp [intOf]; omega
    · rw [decide_eq_false q] at hrun
      have E := Lib.hid (show decide (xs = ys) = false from decide_eq_false (HX.out.1 q))
      clear q
      go_wp2
      refine wp_region_quiet_below (by kernel_rfl) (by kernel_rfl) ?_
      repeat (go_big_quiet_step ((fail)))
      refine wpQuiet_nil ?_
      intro WQ hq'
      have hq := of_regrown hq'
      clear hq'
      go_wp2
      go_ret
      exact ⟨ret_bool E.out.symm, below_after HK.out.2 hq HK.out.2.size⟩
theorem info_int3 : (Try.prog.info? 3).map (fun i => (i.zero, i.size, i.bytes)) = some (some (.int .i64 0), 1, 8) := by kernel_rfl

theorem run_eqi (x y : Yt) (w : World) : (Op.equalIn 10000 40 (.agg (encY x).toArray) (.agg (encY y).toArray)).run Try.prog w = .ok (decide (x = y)) w := by
  obtain ⟨x0, x1, x2⟩ := x
  obtain ⟨y0, y1, y2⟩ := y
  dsimp only [encY]
  obtain ⟨i0, hi, _⟩ := info_parts info_int3
  rw [run_equalIn_array (P := Try.prog) (w := w) 9999 _ _ Try.underlying40 hi]
  have hc : Try.prog.cellsOf 3 = 1 := by kernel_rfl
  have hp := fun (b0 b1 b2 : Int) (i : Nat) v (h : (#[Value.int .i64 b0, .int .i64 b1, .int .i64 b2])[i]? = some v) => run_part_plain (P := Try.prog) (w := w) (e := 3) (by kernel_rfl) h
  have q : ∀ a b : Int, (Op.equalIn 9999 3 (.int .i64 a) (.int .i64 b)).run Try.prog w = .ok (a == b) w := fun a b => run_equalIn_int (P := Try.prog) (w := w) 9998 3 .i64 .i64 a b Try.underlying3
  have p1 : ∀ b0 b1 b2 : Int, _ := fun b0 b1 b2 => hp b0 b1 b2 1 _ rfl
  have p2 : ∀ b0 b1 b2 : Int, _ := fun b0 b1 b2 => hp b0 b1 b2 2 _ rfl
  rw [hc]
  simp only [show List.range 3 = [0, 1, 2] from rfl, Op.eqItems, Sem.run_bind, Nat.mul_one, hp x0 x1 x2 0 _ rfl, hp y0 y1 y2 0 _ rfl, hp x0 x1 x2 1 _ rfl, hp y0 y1 y2 1 _ rfl, hp x0 x1 x2 2 _ rfl, hp y0 y1 y2 2 _ rfl, q, Result.andThen_ok]
  by_cases h0 : x0 = y0 <;> by_cases h1 : x1 = y1 <;> by_cases h2 : x2 = y2 <;> simp [h0, h1, h2, Op.eqItems, p1, p2, q]
theorem list_ne_atY {xs ys : List Yt} {k : Nat} (h : nthY xs k ≠ nthY ys k) : xs ≠ ys := fun e => h (by rw [e])
theorem list_eq_atY {xs ys : List Yt} (hl : xs.length = ys.length) (h : ∀ k, k < xs.length → nthY xs k = nthY ys k) : xs = ys := by
  refine List.ext_getElem hl fun k h1 h2 => ?_
  have := h k h1
  simpa [nthY, List.getD_eq_getElem?_getD, List.getElem?_eq_getElem h1, List.getElem?_eq_getElem h2] using this
set_option maxRecDepth 100000 in
set_option maxHeartbeats 4000000 in
theorem rspans_any (a : Option Addr) (n cap b off : Nat) (xs : List Yt) (a' : Option Addr) (n' cap' b' off' : Nat) (ys : List Yt) (w : World) (h : Ys w a n b off xs) (h' : Ys w a' n' b' off' ys) (hn : n ≤ 9223372036854775807) (hn' : n' ≤ 9223372036854775807) :
    Calls Try.prog 19 #[.slice a n cap, .slice a' n' cap'] w fun e w' => e = .returned (.bool (decide (xs = ys))) ∧ Below w.heap.size w w' := by
  have HM := Lib.hid (show _ ∧ _ from ⟨h, h'⟩)
  have HL := Lib.hid (show _ ∧ _ from ⟨h.1, h'.1⟩)
  clear h h'
  by_cases hnn : n = n'
  case neg =>
    have z : ((n : Int) != (n' : Int)) = true := by simp; omega
    have E := Lib.hid (show decide (xs = ys) = false from decide_eq_false fun e => hnn (by rw [← HL.out.1, ← HL.out.2, e]))
    clear hnn
    go_enter Try.func19, Try.ntmps19
    go_wp2
    go_ret
    exact ⟨ret_bool E.out.symm, Below.refl _ _⟩
  obtain rfl : n = n' := hnn
  go_enter Try.func19, Try.ntmps19
  go_wp2
  go_loopw [5] (fun i wr => ∃ k : Nat, k ≤ n ∧ i = .int .i64 k ∧ (∀ j, j < k → nthY xs j = nthY ys j) ∧ Below w.heap.size w wr) (fun i _ => n - (intOf i).toNat)
  case atStart => exact ⟨0, Nat.zero_le _, rfl, fun i hi => by omega, Below.refl _ _⟩
  case round =>
    obtain ⟨k, hk, rfl, hok, hb⟩ := hrel
    have HK := Lib.hid (show _ ∧ _ from ⟨hok, hb⟩); clear hok hb
    by_cases hlt : k < n
    case neg =>
      obtain rfl : k = n := by omega
      have E := Lib.hid (show decide (xs = ys) = true from decide_eq_true (list_eq_atY (by rw [HL.out.1, HL.out.2]) fun j hj => HK.out.1 j (by rw [← HL.out.1]; exact hj)))
      go_wp2
      go_ret
      exact ⟨ret_bool E.out.symm, HK.out.2⟩
    obtain ⟨rfl, hbw⟩ := HM.out.1.2.1 (by omega)
    obtain ⟨rfl, hbw'⟩ := HM.out.2.2.1 (by omega)
    obtain ⟨c0, c1, c2⟩ := (HM.out.1.grown HK.out.2).2.2 k hlt
    obtain ⟨d0, d1, d2⟩ := (HM.out.2.grown HK.out.2).2.2 k hlt
    have hne := fun h => list_ne_atY (xs := xs) (ys := ys) (k := k) h
    have hnx : ∀ j, j < k + 1 → nthY xs k = nthY ys k → nthY xs j = nthY ys j := fun j hj h => by
      by_cases e : j = k
      · subst e; exact h
      · exact HK.out.1 j (by omega)
    generalize hx : nthY xs k = x at *
    generalize hy : nthY ys k = y at *
    have HX := Lib.hid (show _ ∧ _ from ⟨hne, hnx⟩)
    clear hx hy hne hnx
    have hrun := run_eqi x y
    obtain ⟨x0, x1, x2⟩ := x
    obtain ⟨y0, y1, y2⟩ := y
    dsimp only at c0 c1 c2 d0 d1 d2
    replace c0 := cell_regrown c0; replace c1 := cell_regrown c1; replace c2 := cell_regrown c2
    replace d0 := cell_regrown d0; replace d1 := cell_regrown d1; replace d2 := cell_regrown d2
    dsimp only [encY] at hrun
    by_cases q : ((x0, x1, x2) : Yt) = (y0, y1, y2)
    · rw [decide_eq_true q] at hrun
      have HQ := Lib.hid q
      clear q
      go_wp2
      refine wp_region_quiet_below (by kernel_rfl) (by kernel_rfl) ?_
      repeat (go_big_quiet_step ((fail)))
      refine wpQuiet_nil ?_
      intro WQ hq'
      have hq := of_regrown hq'
      clear hq'
      go_wp2
      go_roundw
      case rel => exact ⟨k + 1, by omega, by go_num, fun j hj => HX.out.2 j hj HQ.out, below_after HK.out.2 hq HK.out.2.size⟩
      case measure => simp [intOf]; omega
    · rw [decide_eq_false q] at hrun
      have E := Lib.hid (show decide (xs = ys) = false from decide_eq_false (HX.out.1 q))
      clear q
      go_wp2
      refine wp_region_quiet_below (by kernel_rfl) (by kernel_rfl) ?_
      repeat (go_big_quiet_step ((fail)))
      refine wpQuiet_nil ?_
      intro WQ hq'
      have hq := of_regrown hq'
      clear hq'
      go_wp2
      go_ret
      exact ⟨ret_bool E.out.symm, below_after HK.out.2 hq HK.out.2.size⟩
end Go.Proofs.Ytjedpemjifcciaa
