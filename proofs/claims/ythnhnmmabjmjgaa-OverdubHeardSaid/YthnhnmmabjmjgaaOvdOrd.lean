/- The reference's InOrder (layer 44). -/
import Derived.Test.YthnhnmmabjmjgaaOvdA
import Derived.Test.YthnhnmmabjmjgaaGrowT
namespace Go.Proofs.Ythnhnmmabjmjgaa
open Go.ChangeShapes Go.WideShapes Go.ChangeAt Go.RowKit Go.Shelf

set_option maxRecDepth 100000 in
set_option maxHeartbeats 8000000 in
theorem rinorder_any (a : Option Addr) (n cap b off : Nat) (l : List Ht) (w : World) (h : Hs w a n b off l) (hn : n ≤ 9223372036854775807) :
    Calls Try.prog 19 #[.slice a n cap] w fun e w' => e = .returned (.bool (decide (OrdS l))) ∧ Below w.heap.size w w' := by
  have HM := Lib.hid h
  obtain ⟨hl, ha, -⟩ := h
  by_cases hn2 : 65536 < n
  · have e : decide (OrdS l) = false := decide_eq_false fun g => by have := g.1; omega
    rw [e]
    clear ha hl
    go_enter Try.func19, Try.ntmps19
    go_wp2
    go_ret
    exact ⟨rfl, Below.refl _ _⟩
  have HL := Lib.hid (show _ ∧ _ from ⟨hl, ha⟩); clear hl ha
  go_enter Try.func19, Try.ntmps19
  go_wp2
  go_loopw [3] (fun i wr => ∃ k : Nat, k ≤ n ∧ i = .int .i64 k ∧ OrdTo l k ∧ Below w.heap.size w wr) (fun i _ => n - (intOf i).toNat)
  case atStart => exact ⟨0, Nat.zero_le _, rfl, fun i hi => by omega, Below.refl _ _⟩
  case round =>
    obtain ⟨k, hk, rfl, hok, hb⟩ := hrel
    have hei := endH_in hok
    have HK := Lib.hid (show _ ∧ _ from ⟨hok, hb⟩); clear hok hb
    by_cases hlt : k < n
    case neg =>
      obtain rfl : k = n := by omega
      have E0 := Lib.hid (show decide (OrdS l) = true from decide_eq_true ⟨by rw [HL.out.1]; omega, by rw [HL.out.1]; exact HK.out.1⟩)
      go_wp2
      go_ret
      exact ⟨ret_bool E0.out.symm, HK.out.2⟩
    obtain ⟨rfl, hbw⟩ := HL.out.2 (by omega)
    obtain ⟨c0, c1, c2, c3, c4⟩ := (HM.out.grown HK.out.2).2.2 k hlt
    have hb0 := HK.out.2.size
    have hbad : ¬ OkH (endH l k) (nthH l k) → decide (OrdS l) = false := ordS_no (by rw [HL.out.1]; exact hlt)
    have hst : OkH (endH l k) (nthH l k) → OrdTo l (k + 1) := fun h => ordTo_succ HK.out.1 h
    have hpe : ∀ j, k = j + 1 → endH l k = (nthH l j).1 + (nthH l j).2.1 := fun j h => by rw [h]; rfl
    have hze : k = 0 → endH l k = 0 := fun h => by rw [h]; rfl
    generalize hx : nthH l k = x at *
    generalize endH l k = e at *
    obtain ⟨x0, x1, x2, x3, x4⟩ := x
    have HX := Lib.hid (show _ ∧ _ ∧ _ ∧ _ ∧ _ from ⟨hbad, hst, hpe, hze, hx⟩); clear hbad hst hpe hze hx
    dsimp only at c0 c1 c2 c3 c4
    obtain ⟨W2, hW2⟩ : ∃ W2, W2 = wr.alloc (.cells #[.int .i64 x0, .int .i64 x1, .int .i64 x2, .bool x3, .bool x4] 50) := ⟨_, rfl⟩
    have hb2 : Below wr.heap.size wr W2 := by rw [hW2]; exact (Below.refl _ _).alloc (Nat.le_refl _) _
    have hx2 : W2.heap[wr.heap.size]? = some (.cells #[.int .i64 x0, .int .i64 x1, .int .i64 x2, .bool x3, .bool x4] 50 (0, 0)) := by rw [hW2]; exact blk_new _ _
    have hB2 := below_after HK.out.2 hb2 hb0
    have H2 := Lib.hid hB2
    have d0 := blk_cell hx2 0; have d1 := blk_cell hx2 1; have d2 := blk_cell hx2 2
    simp at d0 d1 d2
    clear hb2 hx2 hB2
    by_cases q0 : x0 < 0
    · have E0 := Lib.hid (HX.out.1 fun h => by have h1 := h.1; have := hei.1; dsimp only at h1; omega)
      have z0 : decide (x0 < 0) = true := decide_eq_true q0
      clear q0 hei
      go_upto_region 7 with fail
      rw [← hW2]
      clear hW2 c0 c1 c2 c3 c4
      go_wp2
      go_ret
      exact ⟨ret_bool E0.out.symm, H2.out⟩
    by_cases q1 : x0 > 1099511627776
    · have E0 := Lib.hid (HX.out.1 fun h => by have h1 := h.1; have := hei.1; dsimp only at h1; omega)
      have z0 : decide (x0 < 0) = false := decide_eq_false q0
      have z1 : decide (x0 > 1099511627776) = true := decide_eq_true q1
      clear q0 q1 hei
      go_upto_region 7 with fail
      rw [← hW2]
      clear hW2 c0 c1 c2 c3 c4
      go_wp2
      go_ret
      exact ⟨ret_bool E0.out.symm, H2.out⟩
    by_cases q2 : x2 < 0
    · have E0 := Lib.hid (HX.out.1 fun h => by have h1 := h.2.1; have := hei.1; dsimp only at h1; omega)
      have z0 : decide (x0 < 0) = false := decide_eq_false q0
      have z1 : decide (x0 > 1099511627776) = false := decide_eq_false q1
      have z2 : decide (x2 < 0) = true := decide_eq_true q2
      clear q0 q1 q2 hei
      go_upto_region 7 with fail
      rw [← hW2]
      clear hW2 c0 c1 c2 c3 c4
      go_wp2
      go_ret
      exact ⟨ret_bool E0.out.symm, H2.out⟩
    by_cases q3 : x2 > 1099511627776
    · have E0 := Lib.hid (HX.out.1 fun h => by have h1 := h.2.1; have := hei.1; dsimp only at h1; omega)
      have z0 : decide (x0 < 0) = false := decide_eq_false q0
      have z1 : decide (x0 > 1099511627776) = false := decide_eq_false q1
      have z2 : decide (x2 < 0) = false := decide_eq_false q2
      have z3 : decide (x2 > 1099511627776) = true := decide_eq_true q3
      clear q0 q1 q2 q3 hei
      go_upto_region 7 with fail
      rw [← hW2]
      clear hW2 c0 c1 c2 c3 c4
      go_wp2
      go_ret
      exact ⟨ret_bool E0.out.symm, H2.out⟩
    by_cases q4 : x1 < 1
    · have E0 := Lib.hid (HX.out.1 fun h => by have h1 := h.2.2; have := hei.1; dsimp only at h1; omega)
      have z0 : decide (x0 < 0) = false := decide_eq_false q0
      have z1 : decide (x0 > 1099511627776) = false := decide_eq_false q1
      have z2 : decide (x2 < 0) = false := decide_eq_false q2
      have z3 : decide (x2 > 1099511627776) = false := decide_eq_false q3
      have z4 : decide (x1 < 1) = true := decide_eq_true q4
      clear q0 q1 q2 q3 q4 hei
      go_upto_region 7 with fail
      rw [← hW2]
      clear hW2 c0 c1 c2 c3 c4
      go_wp2
      go_ret
      exact ⟨ret_bool E0.out.symm, H2.out⟩
    by_cases q5 : x1 > 1099511627776
    · have E0 := Lib.hid (HX.out.1 fun h => by have h1 := h.2.2; have := hei.1; dsimp only at h1; omega)
      have z0 : decide (x0 < 0) = false := decide_eq_false q0
      have z1 : decide (x0 > 1099511627776) = false := decide_eq_false q1
      have z2 : decide (x2 < 0) = false := decide_eq_false q2
      have z3 : decide (x2 > 1099511627776) = false := decide_eq_false q3
      have z4 : decide (x1 < 1) = false := decide_eq_false q4
      have z5 : decide (x1 > 1099511627776) = true := decide_eq_true q5
      clear q0 q1 q2 q3 q4 q5 hei
      go_upto_region 7 with fail
      rw [← hW2]
      clear hW2 c0 c1 c2 c3 c4
      go_wp2
      go_ret
      exact ⟨ret_bool E0.out.symm, H2.out⟩
    have z0 : decide (x0 < 0) = false := decide_eq_false q0
    have z1 : decide (x0 > 1099511627776) = false := decide_eq_false q1
    have z2 : decide (x2 < 0) = false := decide_eq_false q2
    have z3 : decide (x2 > 1099511627776) = false := decide_eq_false q3
    have z4 : decide (x1 < 1) = false := decide_eq_false q4
    have z5 : decide (x1 > 1099511627776) = false := decide_eq_false q5
    cases k with
    | zero =>
      have N := Lib.hid (HX.out.2.1 ⟨show _ ≤ x0 ∧ x0 ≤ _ from ⟨by rw [HX.out.2.2.2.1 rfl]; omega, by omega⟩, show 0 ≤ x2 ∧ x2 ≤ _ from ⟨by omega, by omega⟩, show 1 ≤ x1 from by omega, show x1 ≤ _ from by omega⟩)
      simp only [Nat.zero_mul, Nat.add_zero] at c0 c1 c2 c3 c4
      clear q0 q1 q2 q3 q4 q5 hei
      go_upto_region 7 with fail
      rw [← hW2]
      clear hW2 c0 c1 c2 c3 c4
      go_upto_region 9 with fail
      clear z0 z1 z2 z3 z4 z5
      replace d0 := cell_regrown d0
      refine wp_region_quiet_below (by kernel_rfl) (by kernel_rfl) ?_
      repeat (go_big_quiet_step ((fail)))
      refine wpQuiet_nil ?_
      intro Wq hbq'
      have hbq := of_regrown hbq'
      clear hbq'
      go_wp2
      go_roundw
      case rel => exact ⟨1, by omega, by go_num, N.out, below_after H2.out hbq H2.out.size⟩
      case measure => simp [intOf]; omega
    | succ j =>
      obtain ⟨p0, p1, p2, p3, p4⟩ := (HM.out.grown H2.out).2.2 j (by omega)
      have he := HX.out.2.2.1 j rfl
      have hpj := HK.out.1 j (by omega)
      generalize nthH l j = y at *
      obtain ⟨y0, y1, y2, y3, y4⟩ := y
      unfold OkH at hpj
      dsimp only at p0 p1 he hpj
      replace p0 := cell_regrown p0; replace p1 := cell_regrown p1
      have hj : (j : Int) < n := by omega
      have ng3 : decide (0 < ((j : Int) + 1)) = true := by simp
      have ng : decide (((j : Int) + 1) > 0) = true := by simp
      have hyy : -9223372036854775808 ≤ y0 + y1 ∧ y0 + y1 ≤ 9223372036854775807 := by have := hei.1; omega
      have HE := Lib.hid (show _ ∧ _ from ⟨he, hei⟩)
      clear he hpj hei p2 p3 p4
      by_cases q6 : x0 < y0 + y1
      · have E0 := Lib.hid (HX.out.1 fun h => by have := h.1.1; have := HE.out.1; omega)
        have z6 : decide (x0 < y0 + y1) = true := decide_eq_true q6
        clear q0 q1 q2 q3 q4 q5 q6
        go_upto_region 7 with fail
        rw [← hW2]
        clear hW2 c0 c1 c2 c3 c4
        go_upto_region 9 with fail
        clear z0 z1 z2 z3 z4 z5
        replace d0 := cell_regrown d0
        refine wp_region_quiet_below (by kernel_rfl) (by kernel_rfl) ?_
        repeat (go_big_quiet_step ((fail)))
        refine wpQuiet_nil ?_
        intro Wq hbq'
        have hbq := of_regrown hbq'
        clear hbq'
        go_wp2
        go_ret
        exact ⟨ret_bool E0.out.symm, below_after H2.out hbq H2.out.size⟩
      · have N := Lib.hid (HX.out.2.1 ⟨show _ ≤ x0 ∧ x0 ≤ _ from ⟨by rw [HE.out.1]; omega, by omega⟩, show 0 ≤ x2 ∧ x2 ≤ _ from ⟨by omega, by omega⟩, show 1 ≤ x1 from by omega, show x1 ≤ _ from by omega⟩)
        have z6 : decide (x0 < y0 + y1) = false := decide_eq_false q6
        clear q0 q1 q2 q3 q4 q5 q6
        go_upto_region 7 with fail
        rw [← hW2]
        clear hW2 c0 c1 c2 c3 c4
        go_upto_region 9 with fail
        clear z0 z1 z2 z3 z4 z5
        replace d0 := cell_regrown d0
        refine wp_region_quiet_below (by kernel_rfl) (by kernel_rfl) ?_
        repeat (go_big_quiet_step ((fail)))
        refine wpQuiet_nil ?_
        intro Wq hbq'
        have hbq := of_regrown hbq'
        clear hbq'
        go_wp2
        go_roundw
        case rel => exact ⟨j + 1 + 1, by omega, by go_num, N.out, below_after H2.out hbq H2.out.size⟩
        case measure => simp [intOf]; omega
end Go.Proofs.Ythnhnmmabjmjgaa
