/- The walk of CurvesEnds (layer 11). -/
import Derived.Test.YtafffmcmdhbghaaCrvSane
import Derived.Test.YtafffmcmdhbghaaHeld
namespace Go.Proofs.Ytafffmcmdhbghaa
open Go.ChangeShapes Go.WideShapes Go.ChangeAt Go.RowKit Go.Shelf

theorem cnt_zero {l : List Kt} {at' : Int} : ∀ n, (∀ i, i < n → at' < (nthK l i).1) → cnt l at' n = 0 := by
  intro n
  induction n with
  | zero => intro _; rfl
  | succ n ih => intro h; unfold cnt; rw [if_neg (by have := h n (by omega); omega)]; exact ih fun i hi => h i (by omega)
theorem incr {most : Int} {l : List Kt} (h : Lane most l) : ∀ j i, i < j → j < l.length → (nthK l i).1 < (nthK l j).1 := by
  intro j
  induction j with
  | zero => intro i h; omega
  | succ j ih =>
    intro i hi hj
    have h1 := (h.2 (j + 1) hj).2 (by omega)
    simp only [Nat.add_sub_cancel] at h1
    by_cases e : i = j
    · subst e; exact h1
    · have := ih i (by omega) (by omega); omega
theorem ends_first {l : List Kt} (h : Curve l) (h0 : 0 < l.length) {at' : Int} (ha : at' ≤ (nthK l 0).1) : valC l at' = (nthK l 0).2.1 := by
  unfold valC valP
  rw [if_neg (by omega)]
  by_cases e : at' = (nthK l 0).1
  · have hc : cnt l at' l.length = 1 := by
      have key : ∀ n, 0 < n → n ≤ l.length → cnt l at' n = 1 := by
        intro n
        induction n with
        | zero => intro h; omega
        | succ n ih =>
          intro _ hn
          unfold cnt
          by_cases h1 : n = 0
          · subst h1; rw [if_pos (by omega)]
          · rw [if_neg (by have := incr h.1 n 0 (by omega) (by omega); omega)]; exact ih (by omega) (by omega)
      exact key _ h0 (Nat.le_refl _)
    rw [hc, if_neg (by omega)]
    by_cases h1 : 1 = l.length
    · rw [if_pos h1]
    · rw [if_neg h1]
      have hk := (h.1.2 0 h0).1
      have hk1 := (h.1.2 1 (by omega)).1
      have hlt := incr h.1 1 0 (by omega) (by omega)
      simp only [Nat.sub_self]
      unfold segV
      by_cases s1 : (nthK l 0).2.2.1 = 1
      · rw [if_pos s1]
      · rw [if_neg s1]
        have c0 : clip (nthK l 0).2.1 = (nthK l 0).2.1 := by unfold clip; have := hk.2.2.1; have := hk.2.2.2.1; omega
        have z : at' - (nthK l 0).1 = 0 := by omega
        by_cases s2 : (nthK l 0).2.2.1 = 2
        · rw [if_pos s2]
          unfold lineV
          rw [z, c0]
          simp
        · rw [if_neg s2]
          unfold bendV
          rw [z, c0]
          have hs3 : (nthK l 0).2.2.1 = 3 := by have := hk.2.2.2.2.1; have := hk.2.2.2.2.2.1; omega
          have hw := hk.2.2.2.2.2.2.1 hs3
          simp only [Int.mul_zero, Int.add_zero, Int.sub_zero]
          exact Int.mul_ediv_cancel _ (by
            have h1 : 1 * 1 ≤ (nthK l 0).2.2.2.1 * ((nthK l 1).1 - (nthK l 0).1) := Int.mul_le_mul hw.1 (by omega) (by omega) (by omega)
            omega)
  · rw [cnt_zero _ fun i hi => by
      by_cases h1 : i = 0
      · subst h1; omega
      · have := incr h.1 i 0 (by omega) hi; omega]
    rw [if_pos rfl]
theorem ends_last {l : List Kt} (h0 : 0 < l.length) {at' : Int} (ha : (nthK l (l.length - 1)).1 ≤ at') : valC l at' = (nthK l (l.length - 1)).2.1 := by
  unfold valC valP
  rw [if_neg (by omega)]
  have hc : cnt l at' l.length = l.length := by
    obtain ⟨m, hm⟩ : ∃ m, l.length = m + 1 := ⟨l.length - 1, by omega⟩
    rw [hm] at ha ⊢
    simp only [Nat.add_sub_cancel] at ha
    unfold cnt
    rw [if_pos ha]
  rw [hc, if_neg (by omega), if_pos rfl]
theorem ends_none {l : List Kt} (h0 : l.length = 0) (at' : Int) : valC l at' = 0 := by unfold valC valP; rw [if_pos h0]

set_option maxHeartbeats 4000000 in
theorem curvesEnds_walk (a : Option Addr) (b off n cap : Nat) (l : List Kt) (at' : Int) (w : World) (hM : Ks w a n b off l) (hn : n ≤ 9223372036854775807) (hnc : a = none → cap = 0) (hlc : n ≤ cap) :
    Calls Try.prog 7 #[.slice a n cap, .int .i64 at'] w fun e w' => e = .returned (.bool true) ∧ Below w.heap.size w w' := by
  have hl := hM.1
  have HM := Lib.hid hM
  clear hM
  go_enter Try.func7, Try.ntmps7
  go_wp2_with fail
  refine (sane_any w).mono ?_; rintro e w1 ⟨rfl, hB⟩
  go_wp2_with fail
  refine (rfew_any a n cap w1).mono ?_; rintro e w' ⟨rfl, rfl⟩
  by_cases hf : (n : Int) ≤ 1100
  case neg =>
    rw [decide_eq_false hf]
    go_wp2
    go_ret
    exact ⟨rfl, hB⟩
  rw [decide_eq_true hf]
  by_cases hc : Curve l
  case neg =>
    go_wp2_with fail
    refine (rccheck_any a b off n cap l _ (HM.out.grown hB) hn).mono ?_; rintro e w5 ⟨rfl, hb⟩; rw [chkC_no hc]
    replace hB := below_after hB hb hB.size
    clear hb
    go_wp2
    go_ret
    exact ⟨rfl, hB⟩
  go_wp2_with fail
  refine (rccheck_any a b off n cap l _ (HM.out.grown hB) hn).mono ?_; rintro e w5 ⟨rfl, hb⟩; rw [chkC_yes hc]
  replace hB := below_after hB hb hB.size
  clear hb
  go_wp2_with fail
  refine (cvalue_any a b off n cap l at' _ (HM.out.grown hB) hn hnc hlc).mono ?_; rintro e w2 ⟨rfl, hb⟩; rw [chkC_yes hc, valV_yes hc]
  replace hB := below_after hB hb hB.size
  clear hb
  by_cases h0 : n = 0
  · have hv := ends_none (by omega) at' (l := l)
    rw [hv]
    have e0 : (n : Int) = 0 := by omega
    go_wp2
    go_ret
    exact ⟨by simp, hB⟩
  have hf1 := fun h => ends_first hc (by omega) (at' := at') h
  have hl1 := fun h => ends_last (l := l) (by omega) (at' := at') h
  rw [hl] at hl1
  obtain ⟨m, hm⟩ : ∃ m, n = m + 1 := ⟨n - 1, by omega⟩
  rw [show n - 1 = m by omega] at hl1
  have z0 : (n : Int) ≠ 0 := by omega
  obtain ⟨rfl, hbw⟩ := HM.out.2.1 (by omega)
  obtain ⟨c0, c1, c2, c3, c4⟩ := (HM.out.grown hB).2.2 0 (by omega)
  obtain ⟨d0, d1, d2, d3, d4⟩ := (HM.out.grown hB).2.2 m (by omega)
  simp only [Nat.zero_mul, Nat.add_zero] at c0 c1 c2 c3 c4
  have zn : IntKind.i64.wrap ((n : Int) - 1) = (m : Int) := by rw [IntKind.wrap_i64]; omega
  have zl : (m : Int) < (n : Int) := by omega
  have zp : (0 : Int) < (n : Int) := by omega
  generalize hv : valC l at' = v at *
  have HV := Lib.hid (show _ ∧ _ ∧ _ from ⟨hv, hf1, hl1⟩)
  clear hv hf1 hl1
  have hb2 : b < w2.heap.size := by have := hB.size; omega
  have HC : ∀ w', Below w2.heap.size w2 w' → w'.cell? ⟨b, off, none⟩ = some (.int .i64 (nthK l 0).1) ∧ w'.cell? ⟨b, off + 1, none⟩ = some (.int .i64 (nthK l 0).2.1) ∧ w'.cell? ⟨b, off + 2, none⟩ = some (.int .i64 (nthK l 0).2.2.1) ∧ w'.cell? ⟨b, off + 3, none⟩ = some (.int .i64 (nthK l 0).2.2.2.1) ∧ w'.cell? ⟨b, off + 4, none⟩ = some (.int .i64 (nthK l 0).2.2.2.2) ∧
      w'.cell? ⟨b, off + m * 5, none⟩ = some (.int .i64 (nthK l m).1) ∧ w'.cell? ⟨b, off + m * 5 + 1, none⟩ = some (.int .i64 (nthK l m).2.1) ∧ w'.cell? ⟨b, off + m * 5 + 2, none⟩ = some (.int .i64 (nthK l m).2.2.1) ∧ w'.cell? ⟨b, off + m * 5 + 3, none⟩ = some (.int .i64 (nthK l m).2.2.2.1) ∧ w'.cell? ⟨b, off + m * 5 + 4, none⟩ = some (.int .i64 (nthK l m).2.2.2.2) := by
    intro w' s
    exact ⟨(s.cell (p := ⟨b, _, none⟩) hb2).trans c0, (s.cell (p := ⟨b, _, none⟩) hb2).trans c1, (s.cell (p := ⟨b, _, none⟩) hb2).trans c2, (s.cell (p := ⟨b, _, none⟩) hb2).trans c3, (s.cell (p := ⟨b, _, none⟩) hb2).trans c4, (s.cell (p := ⟨b, _, none⟩) hb2).trans d0, (s.cell (p := ⟨b, _, none⟩) hb2).trans d1, (s.cell (p := ⟨b, _, none⟩) hb2).trans d2, (s.cell (p := ⟨b, _, none⟩) hb2).trans d3, (s.cell (p := ⟨b, _, none⟩) hb2).trans d4⟩
  generalize hx : nthK l 0 = x at *
  generalize hy : nthK l m = y at *
  obtain ⟨xA, xV, xS, xW, xX⟩ := x
  obtain ⟨yA, yV, yS, yW, yX⟩ := y
  dsimp only at HC c0 c1 c2 c3 c4 d0 d1 d2 d3 d4 HV ⊢
  have HXY := Lib.hid (show _ ∧ _ from ⟨hx, hy⟩)
  have HCC := Lib.hid HC
  clear HC c0 c1 c2 c3 c4 d0 d1 d2 d3 d4 hx hy
  have HMM := Lib.hid hm
  clear hm
  go_wp2
  refine wp_region_from 0 9 (fun w' => Below w2.heap.size w2 w') (by kernel_rfl) (by kernel_rfl) (by decide) (by kernel_rfl) (Below.refl _ _).drew ?_
  simp only [List.drop_zero, List.take_succ_cons, List.take_zero]
  refine wpHeld_cons (.slice (some ⟨b, off, none⟩) n cap) (by kernel_rfl) ?_ ?_
  · intro w' s
    obtain ⟨x0, x1, x2, x3, x4, z0, z1, z2, z3, z4⟩ := HCC.out w' s
    try go_simp
    try (first | omega | (intro h; exfalso; omega))
  refine wpHeld_cons (.pointer (some ⟨b, off, none⟩)) (by kernel_rfl) ?_ ?_
  · intro w' s
    obtain ⟨x0, x1, x2, x3, x4, z0, z1, z2, z3, z4⟩ := HCC.out w' s
    try go_simp
    try (first | omega | (intro h; exfalso; omega))
  refine wpHeld_cons (.agg #[.int .i64 xA, .int .i64 xV, .int .i64 xS, .int .i64 xW, .int .i64 xX]) (by kernel_rfl) ?_ ?_
  · intro w' s
    obtain ⟨x0, x1, x2, x3, x4, z0, z1, z2, z3, z4⟩ := HCC.out w' s
    try go_simp
    try (first | omega | (intro h; exfalso; omega))
  refine wpHeld_cons (.slice (some ⟨b, off, none⟩) n cap) (by kernel_rfl) ?_ ?_
  · intro w' s
    obtain ⟨x0, x1, x2, x3, x4, z0, z1, z2, z3, z4⟩ := HCC.out w' s
    try go_simp
    try (first | omega | (intro h; exfalso; omega))
  refine wpHeld_cons (.slice (some ⟨b, off, none⟩) n cap) (by kernel_rfl) ?_ ?_
  · intro w' s
    obtain ⟨x0, x1, x2, x3, x4, z0, z1, z2, z3, z4⟩ := HCC.out w' s
    try go_simp
    try (first | omega | (intro h; exfalso; omega))
  refine wpHeld_cons (.int .i64 (n : Int)) (by kernel_rfl) ?_ ?_
  · intro w' s
    obtain ⟨x0, x1, x2, x3, x4, z0, z1, z2, z3, z4⟩ := HCC.out w' s
    try go_simp
    try (first | omega | (intro h; exfalso; omega))
  refine wpHeld_cons (.int .i64 (m : Int)) (by kernel_rfl) ?_ ?_
  · intro w' s
    obtain ⟨x0, x1, x2, x3, x4, z0, z1, z2, z3, z4⟩ := HCC.out w' s
    try go_simp
    try (first | omega | (intro h; exfalso; omega))
  refine wpHeld_cons (.pointer (some ⟨b, off + m * 5, none⟩)) (by kernel_rfl) ?_ ?_
  · intro w' s
    obtain ⟨x0, x1, x2, x3, x4, z0, z1, z2, z3, z4⟩ := HCC.out w' s
    try go_simp
    try (first | omega | (intro h; exfalso; omega))
  refine wpHeld_cons (.agg #[.int .i64 yA, .int .i64 yV, .int .i64 yS, .int .i64 yW, .int .i64 yX]) (by kernel_rfl) ?_ ?_
  · intro w' s
    obtain ⟨x0, x1, x2, x3, x4, z0, z1, z2, z3, z4⟩ := HCC.out w' s
    try go_simp
    try (first | omega | (intro h; exfalso; omega))
  refine wpHeld_nil ?_
  go_simp
  have s0 : Below w2.heap.size w2 w2.drew := (Below.refl _ _).drew
  refine wpAnyH_two (i := 9) (j := 10) (by kernel_rfl) rfl rfl (by kernel_rfl) (by kernel_rfl) (fun K' hK' => ?_) (fun K' hK' => ?_)
  · go_simp
    refine hK' _ _ (s0.alloc s0.size _) ?_
    clear hK' K'
    refine wpAnyH_one (i := 10) (by kernel_rfl) rfl (by kernel_rfl) (fun K' hK' => ?_)
    go_simp
    refine hK' _ _ ((s0.alloc s0.size _).alloc (by simp) _) ?_
    clear hK' K'
    refine wpAnyH_one (i := 11) (by kernel_rfl) rfl (by kernel_rfl) (fun K' hK' => ?_)
    go_simp
    refine hK' _ _ (by go_grown) ?_
    clear hK' K'
    refine wpAnyH_one (i := 12) (by kernel_rfl) rfl (by kernel_rfl) (fun K' hK' => ?_)
    go_simp
    refine hK' _ _ (by go_grown) ?_
    clear hK' K'
    refine wpAnyH_done (by kernel_rfl) ?_ _
    refine NoPanic.normal ?_
    clear s0
    have hBs := hB.size
    by_cases q1 : xA < at' <;> by_cases q2 : at' < yA
    · go_wp2
      go_ret
      exact ⟨by first | rfl | (simp; done) | (simp_all; done) | (simp; omega), by go_grown <;> (first | omega | (simp; omega))⟩
    · have e2 := HV.out.2.2 (by omega)
      have e2' : (v == yV) = true := by simpa using e2
      go_wp2
      go_ret
      exact ⟨by first | rfl | (simp; done) | (simp_all; done) | (simp; omega), by go_grown <;> (first | omega | (simp; omega))⟩
    · have e1 := HV.out.2.1 (by omega)
      have e1' : (v == xV) = true := by simpa using e1
      go_wp2
      go_ret
      exact ⟨by first | rfl | (simp; done) | (simp_all; done) | (simp; omega), by go_grown <;> (first | omega | (simp; omega))⟩
    · have e1 := HV.out.2.1 (by omega)
      have e1' : (v == xV) = true := by simpa using e1
      have e2 := HV.out.2.2 (by omega)
      have e2' : (v == yV) = true := by simpa using e2
      go_wp2
      go_ret
      exact ⟨by first | rfl | (simp; done) | (simp_all; done) | (simp; omega), by go_grown <;> (first | omega | (simp; omega))⟩
  · go_simp
    refine hK' _ _ (s0.alloc s0.size _) ?_
    clear hK' K'
    refine wpAnyH_one (i := 9) (by kernel_rfl) rfl (by kernel_rfl) (fun K' hK' => ?_)
    go_simp
    refine hK' _ _ ((s0.alloc s0.size _).alloc (by simp) _) ?_
    clear hK' K'
    refine wpAnyH_one (i := 11) (by kernel_rfl) rfl (by kernel_rfl) (fun K' hK' => ?_)
    go_simp
    refine hK' _ _ (by go_grown) ?_
    clear hK' K'
    refine wpAnyH_one (i := 12) (by kernel_rfl) rfl (by kernel_rfl) (fun K' hK' => ?_)
    go_simp
    refine hK' _ _ (by go_grown) ?_
    clear hK' K'
    refine wpAnyH_done (by kernel_rfl) ?_ _
    refine NoPanic.normal ?_
    clear s0
    have hBs := hB.size
    by_cases q1 : xA < at' <;> by_cases q2 : at' < yA
    · go_wp2
      go_ret
      exact ⟨by first | rfl | (simp; done) | (simp_all; done) | (simp; omega), by go_grown <;> (first | omega | (simp; omega))⟩
    · have e2 := HV.out.2.2 (by omega)
      have e2' : (v == yV) = true := by simpa using e2
      go_wp2
      go_ret
      exact ⟨by first | rfl | (simp; done) | (simp_all; done) | (simp; omega), by go_grown <;> (first | omega | (simp; omega))⟩
    · have e1 := HV.out.2.1 (by omega)
      have e1' : (v == xV) = true := by simpa using e1
      go_wp2
      go_ret
      exact ⟨by first | rfl | (simp; done) | (simp_all; done) | (simp; omega), by go_grown <;> (first | omega | (simp; omega))⟩
    · have e1 := HV.out.2.1 (by omega)
      have e1' : (v == xV) = true := by simpa using e1
      have e2 := HV.out.2.2 (by omega)
      have e2' : (v == yV) = true := by simpa using e2
      go_wp2
      go_ret
      exact ⟨by first | rfl | (simp; done) | (simp_all; done) | (simp; omega), by go_grown <;> (first | omega | (simp; omega))⟩
end Go.Proofs.Ytafffmcmdhbghaa
