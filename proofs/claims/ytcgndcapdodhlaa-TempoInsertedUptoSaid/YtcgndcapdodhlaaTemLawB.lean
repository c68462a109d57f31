/- The walk of TempoInverse (layer 9). -/
import Derived.Test.YtcgndcapdodhlaaTemLawA
namespace Go.Proofs.Ytcgndcapdodhlaa
open Go.ChangeShapes Go.WideShapes Go.ChangeAt Go.RowKit

theorem smp_nn {l : List Tp} (h : Map l) {t : Int} (h0 : 0 ≤ t) : 0 ≤ smp l t := by
  have := smp_mono h (s := 0) (t := t) (Int.le_refl _) h0
  rw [smp_zero h] at this; exact this
/-- What Sample answers. -/
theorem s_cases (l : List Tp) (t : Int) : (sE l t ≠ 0 ∧ sV l t = 0) ∨ (Map l ∧ (0 ≤ t ∧ t ≤ 16777216) ∧ smp l t ≤ 1099511627776 ∧ sE l t = 0 ∧ sV l t = smp l t) := by
  by_cases h : Map l
  · by_cases h1 : 0 ≤ t ∧ t ≤ 16777216
    · by_cases h2 : smp l t ≤ 1099511627776
      · exact .inr ⟨h, h1, h2, s_ok h h1 h2⟩
      · obtain ⟨e1, e2⟩ := s_big h h1 (by omega)
        exact .inl ⟨by rw [e1]; decide, e2⟩
    · obtain ⟨e1, e2⟩ := s_arg h h1
      exact .inl ⟨by rw [e1]; decide, e2⟩
  · obtain ⟨e1, e2⟩ := s_no (tick := t) h
    exact .inl ⟨by rw [e1]; decide, e2⟩
theorem tick_res {l : List Tp} {pos t e : Int} (h : TickRes l pos t e) : e ≠ 0 ∨ (e = 0 ∧ Map l ∧ (0 ≤ pos ∧ pos ≤ 1099511627776) ∧ TickIs l pos t) := by
  rcases h with ⟨_, _, rfl⟩ | ⟨_, _, _, rfl⟩ | ⟨h1, h2, h3, rfl⟩
  · exact .inl (by decide)
  · exact .inl (by decide)
  · exact .inr ⟨rfl, h1, h2, h3⟩
theorem tick_ok {l : List Tp} {pos t e : Int} (h : TickRes l pos t e) (hm : Map l) (hp : 0 ≤ pos ∧ pos ≤ 1099511627776) : e = 0 ∧ TickIs l pos t := by
  rcases h with ⟨h, _⟩ | ⟨_, h, _⟩ | ⟨_, _, h, rfl⟩
  · exact absurd hm h
  · exact absurd hp h
  · exact ⟨rfl, h⟩
/-- The tick of a sample, there. -/
theorem tick_here {l : List Tp} {pos t : Int} (hp : 0 ≤ pos ∧ pos ≤ 1099511627776) (hm : Map l) (h : TickIs l pos t) : sE l t = 0 ∧ sV l t = smp l t :=
  s_ok hm ⟨h.1, h.2.1⟩ (by have := h.2.2.1; omega)
/-- The next tick. -/
theorem tick_next {l : List Tp} {pos t : Int} (hm : Map l) (h : TickIs l pos t) (ht : t < 16777216) : (sE l (t + 1) = 70 ∧ sV l (t + 1) = 0) ∨ (sE l (t + 1) = 0 ∧ pos < sV l (t + 1)) := by
  by_cases h2 : smp l (t + 1) ≤ 1099511627776
  · obtain ⟨e1, e2⟩ := s_ok hm (tick := t + 1) ⟨by have := h.1; omega, by omega⟩ h2
    exact .inr ⟨e1, by rw [e2]; exact h.2.2.2 ht⟩
  · exact .inl (s_big hm ⟨by have := h.1; omega, by omega⟩ (by omega))
/-- There and back again. -/
theorem tick_back {l : List Tp} {tick back : Int} (hm : Map l) (h0 : 0 ≤ tick ∧ tick ≤ 16777216) (h : TickIs l (smp l tick) back) : tick ≤ back ∧ smp l back = smp l tick := by
  have h1 : tick ≤ back := by
    rcases Int.lt_or_le back tick with c | c
    · have a := h.2.2.2 (by omega)
      have b := smp_mono hm (s := back + 1) (t := tick) (by have := h.1; omega) (by omega)
      omega
    · exact c
  have h2 := smp_mono hm (s := tick) (t := back) h0.1 h1
  have := h.2.2.1
  exact ⟨h1, by omega⟩

set_option maxRecDepth 100000 in
set_option maxHeartbeats 8000000 in
theorem tempoInverse_walk (a : Option Addr) (b off len cap : Nat) (l : List Tp) (tick pos : Int) (w : World) (hM : Ts w a len b off l) (hn : len ≤ 9223372036854775807) (hb : 0 < len → ∃ c tb fr, w.heap[b]? = some (.cells c tb fr)) :
    Calls Try.prog 6 #[.slice a len cap, .int .i64 tick, .int .i64 pos] w fun e w' => e = .returned (.bool true) ∧ Below w.heap.size w w' := by
  have HM := Lib.hid (show _ ∧ _ from ⟨hM, hb⟩)
  clear hb hM
  go_enter Try.func6, Try.ntmps6
  go_wp2_with fail
  refine (sane_any w).mono ?_; rintro e w1 ⟨rfl, hB⟩
  go_wp2_with fail
  refine (ttick_any a b off len cap l pos _ (HM.out.1.grown hB) hn (blk_has HM.out.2 hB)).mono ?_; rintro e w2 ⟨⟨t, r, hT, rfl⟩, hb⟩
  replace hB := below_after hB hb hB.size
  clear hb
  rcases tick_res hT with hr | ⟨rfl, hm, hp, hI⟩
  · have zr : (r == 0) = false := by simp [hr]
    clear hT hr
    go_wp2_with fail
    refine (tsample_any a b off len cap l tick _ (HM.out.1.grown hB) hn (blk_has HM.out.2 hB)).mono ?_; rintro e w5 ⟨rfl, hb⟩
    replace hB := below_after hB hb hB.size
    clear hb
    rcases s_cases l tick with ⟨k1, k2⟩ | ⟨k1, k2, k3, k4, k5⟩
    · rw [k2]
      have z9 : (sE l tick != 0) = true := by simp [k1]
      clear k1 k2
      go_wp2
      go_ret
      exact ⟨rfl, hB⟩
    rw [k4, k5]
    have hs0 := smp_nn k1 k2.1
    have HK := Lib.hid (show _ ∧ _ from ⟨k1, k2⟩)
    clear k1 k4 k5
    go_wp2_with fail
    refine (ttick_any a b off len cap l (smp l tick) _ (HM.out.1.grown hB) hn (blk_has HM.out.2 hB)).mono ?_; rintro e w6 ⟨⟨bk, g, hT6, rfl⟩, hb⟩
    replace hB := below_after hB hb hB.size
    clear hb
    obtain ⟨rfl, hI6⟩ := tick_ok hT6 HK.out.1 ⟨hs0, k3⟩
    obtain ⟨y1, y2⟩ := tick_back HK.out.1 HK.out.2 hI6
    obtain ⟨x1, x2⟩ := tick_here ⟨hs0, k3⟩ HK.out.1 hI6
    rw [y2] at x2
    clear hT6 hI6 y2
    go_wp2_with fail
    refine (tsample_any a b off len cap l bk _ (HM.out.1.grown hB) hn (blk_has HM.out.2 hB)).mono ?_; rintro e w7 ⟨rfl, hb⟩
    rw [x1, x2]
    replace hB := below_after hB hb hB.size
    clear hb x1 x2
    generalize smp l tick = S at *
    go_wp2
    go_ret
    exact ⟨by first | rfl | exact ret_bool (by simp) | exact ret_bool (by simp; omega), hB⟩
  clear hT
  obtain ⟨x1, x2⟩ := tick_here hp hm hI
  have t0 := hI.1; have t1 := hI.2.1; have t2 := hI.2.2.1
  have tn := tick_next hm hI
  have HI := Lib.hid (show _ ∧ _ ∧ _ from ⟨hm, hp, tn⟩)
  clear hm hI tn
  go_wp2_with fail
  refine (tsample_any a b off len cap l t _ (HM.out.1.grown hB) hn (blk_has HM.out.2 hB)).mono ?_; rintro e w3 ⟨rfl, hb⟩
  rw [x1, x2]
  replace hB := below_after hB hb hB.size
  clear hb x1 x2
  generalize smp l t = V at *
  by_cases ht : t < 16777216
  case neg =>
    have zt : decide (t < 16777216) = false := decide_eq_false ht
    go_wp2_with fail
    refine (tsample_any a b off len cap l tick _ (HM.out.1.grown hB) hn (blk_has HM.out.2 hB)).mono ?_; rintro e w5 ⟨rfl, hb⟩
    replace hB := below_after hB hb hB.size
    clear hb
    rcases s_cases l tick with ⟨k1, k2⟩ | ⟨k1, k2, k3, k4, k5⟩
    · rw [k2]
      have z9 : (sE l tick != 0) = true := by simp [k1]
      clear k1 k2
      go_wp2
      go_ret
      exact ⟨rfl, hB⟩
    rw [k4, k5]
    have hs0 := smp_nn k1 k2.1
    have HK := Lib.hid (show _ ∧ _ from ⟨k1, k2⟩)
    clear k1 k4 k5
    go_wp2_with fail
    refine (ttick_any a b off len cap l (smp l tick) _ (HM.out.1.grown hB) hn (blk_has HM.out.2 hB)).mono ?_; rintro e w6 ⟨⟨bk, g, hT6, rfl⟩, hb⟩
    replace hB := below_after hB hb hB.size
    clear hb
    obtain ⟨rfl, hI6⟩ := tick_ok hT6 HK.out.1 ⟨hs0, k3⟩
    obtain ⟨y1, y2⟩ := tick_back HK.out.1 HK.out.2 hI6
    obtain ⟨x1, x2⟩ := tick_here ⟨hs0, k3⟩ HK.out.1 hI6
    rw [y2] at x2
    clear hT6 hI6 y2
    go_wp2_with fail
    refine (tsample_any a b off len cap l bk _ (HM.out.1.grown hB) hn (blk_has HM.out.2 hB)).mono ?_; rintro e w7 ⟨rfl, hb⟩
    rw [x1, x2]
    replace hB := below_after hB hb hB.size
    clear hb x1 x2
    generalize smp l tick = S at *
    go_wp2
    go_ret
    exact ⟨by first | rfl | exact ret_bool (by simp) | exact ret_bool (by simp; omega), hB⟩
  have zt : decide (t < 16777216) = true := decide_eq_true ht
  have u1 : IntKind.i64.wrap (t + 1) = t + 1 := wrap_id (by omega)
  go_wp2_with fail
  refine (tsample_any a b off len cap l (t + 1) _ (HM.out.1.grown hB) hn (blk_has HM.out.2 hB)).mono ?_; rintro e w4 ⟨rfl, hb⟩
  replace hB := below_after hB hb hB.size
  clear hb
  rcases HI.out.2.2 ht with ⟨n1, n2⟩ | ⟨n1, n2⟩
  · rw [n1, n2]
    clear n1 n2
    go_wp2_with fail
    refine (tsample_any a b off len cap l tick _ (HM.out.1.grown hB) hn (blk_has HM.out.2 hB)).mono ?_; rintro e w5 ⟨rfl, hb⟩
    replace hB := below_after hB hb hB.size
    clear hb
    rcases s_cases l tick with ⟨k1, k2⟩ | ⟨k1, k2, k3, k4, k5⟩
    · rw [k2]
      have z9 : (sE l tick != 0) = true := by simp [k1]
      clear k1 k2
      go_wp2
      go_ret
      exact ⟨rfl, hB⟩
    rw [k4, k5]
    have hs0 := smp_nn k1 k2.1
    have HK := Lib.hid (show _ ∧ _ from ⟨k1, k2⟩)
    clear k1 k4 k5
    go_wp2_with fail
    refine (ttick_any a b off len cap l (smp l tick) _ (HM.out.1.grown hB) hn (blk_has HM.out.2 hB)).mono ?_; rintro e w6 ⟨⟨bk, g, hT6, rfl⟩, hb⟩
    replace hB := below_after hB hb hB.size
    clear hb
    obtain ⟨rfl, hI6⟩ := tick_ok hT6 HK.out.1 ⟨hs0, k3⟩
    obtain ⟨y1, y2⟩ := tick_back HK.out.1 HK.out.2 hI6
    obtain ⟨x1, x2⟩ := tick_here ⟨hs0, k3⟩ HK.out.1 hI6
    rw [y2] at x2
    clear hT6 hI6 y2
    go_wp2_with fail
    refine (tsample_any a b off len cap l bk _ (HM.out.1.grown hB) hn (blk_has HM.out.2 hB)).mono ?_; rintro e w7 ⟨rfl, hb⟩
    rw [x1, x2]
    replace hB := below_after hB hb hB.size
    clear hb x1 x2
    generalize smp l tick = S at *
    go_wp2
    go_ret
    exact ⟨by first | rfl | exact ret_bool (by simp) | exact ret_bool (by simp; omega), hB⟩
  · rw [n1]
    generalize sV l (t + 1) = X at *
    have zx : decide (X ≤ pos) = false := decide_eq_false (by omega)
    clear n1
    go_wp2_with fail
    refine (tsample_any a b off len cap l tick _ (HM.out.1.grown hB) hn (blk_has HM.out.2 hB)).mono ?_; rintro e w5 ⟨rfl, hb⟩
    replace hB := below_after hB hb hB.size
    clear hb
    rcases s_cases l tick with ⟨k1, k2⟩ | ⟨k1, k2, k3, k4, k5⟩
    · rw [k2]
      have z9 : (sE l tick != 0) = true := by simp [k1]
      clear k1 k2
      go_wp2
      go_ret
      exact ⟨rfl, hB⟩
    rw [k4, k5]
    have hs0 := smp_nn k1 k2.1
    have HK := Lib.hid (show _ ∧ _ from ⟨k1, k2⟩)
    clear k1 k4 k5
    go_wp2_with fail
    refine (ttick_any a b off len cap l (smp l tick) _ (HM.out.1.grown hB) hn (blk_has HM.out.2 hB)).mono ?_; rintro e w6 ⟨⟨bk, g, hT6, rfl⟩, hb⟩
    replace hB := below_after hB hb hB.size
    clear hb
    obtain ⟨rfl, hI6⟩ := tick_ok hT6 HK.out.1 ⟨hs0, k3⟩
    obtain ⟨y1, y2⟩ := tick_back HK.out.1 HK.out.2 hI6
    obtain ⟨x1, x2⟩ := tick_here ⟨hs0, k3⟩ HK.out.1 hI6
    rw [y2] at x2
    clear hT6 hI6 y2
    go_wp2_with fail
    refine (tsample_any a b off len cap l bk _ (HM.out.1.grown hB) hn (blk_has HM.out.2 hB)).mono ?_; rintro e w7 ⟨rfl, hb⟩
    rw [x1, x2]
    replace hB := below_after hB hb hB.size
    clear hb x1 x2
    generalize smp l tick = S at *
    go_wp2
    go_ret
    exact ⟨by first | rfl | exact ret_bool (by simp) | exact ret_bool (by simp; omega), hB⟩
end Go.Proofs.Ytcgndcapdodhlaa
