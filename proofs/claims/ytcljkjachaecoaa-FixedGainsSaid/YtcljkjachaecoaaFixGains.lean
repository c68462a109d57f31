/- The walk of FixedGains (layer 8). -/
import Derived.Test.YtcljkjachaecoaaFixLaws
namespace Go.Proofs.Ytcljkjachaecoaa
open Go.ChangeShapes Go.WideShapes Go.ChangeAt Go.RowKit

theorem gm_lo (a g : Int) : -2147483648 ≤ gmul a g := clip_lo _
theorem gm_hi (a g : Int) : gmul a g ≤ 2147483647 := clip_hi _
theorem gm_q (a g : Int) : (gmul a g = -2147483648 → clip a * clip g < (gmul a g + 1) * 65536) ∧ (gmul a g = 2147483647 → gmul a g * 65536 ≤ clip a * clip g) ∧ (gmul a g ≠ -2147483648 → gmul a g ≠ 2147483647 → gmul a g * 65536 ≤ clip a * clip g ∧ clip a * clip g < (gmul a g + 1) * 65536) := by
  unfold gmul
  generalize clip a * clip g = p
  unfold clip
  omega

set_option maxHeartbeats 1000000 in
theorem fixedGains_walk (a g : Int) (w : World) :
    Calls Try.prog 7 #[.int .i64 a, .int .i64 g] w fun e w' => e = .returned (.bool true) ∧ Below w.heap.size w w' := by
  have a1 := clip_lo a; have a2 := clip_hi a; have g1 := clip_lo g; have g2 := clip_hi g
  have y1 := gm_lo a g; have y2 := gm_hi a g
  have pr := clip_mul a g
  have q := gm_q a g
  have f1 : (clip (clip a) != clip a) = false := by simp [clip_clip]
  have f2 : (gmul a 65536 != clip a) = false := by simp [mul_unity]
  have f3 : (gmul a 0 != 0) = false := by simp [mul_zero]
  have f4 : (gmul a g != gmul g a) = false := by simp [mul_comm' a g]
  have Q := Lib.hid q; clear q
  by_cases hr : -2147483648 ≤ a ∧ a ≤ 2147483647
  · have f5 : (clip a != a) = false := by simp [clip]; omega
    obtain ⟨r1, r2⟩ := hr
    by_cases c1 : gmul a g = -2147483648
    · have k1 : (gmul a g == -2147483648) = true := by simp [c1]
      have z := Q.out.1 c1
      clear c1
      go_enter Try.func7, Try.ntmps7
      go_wp2_with (first | (go_at_call 10; refine (sane_any _).mono ?_; rintro e w1 ⟨rfl, hb1⟩) | (go_at_call 11; refine (clip_any _ _).mono ?_; rintro e w' ⟨rfl, rfl⟩) | (go_at_call 15; refine (mul_any _ _ _).mono ?_; rintro e w' ⟨rfl, rfl⟩))
      all_goals (go_ret; exact ⟨by simp, hb1⟩)
    · have k1 : (gmul a g == -2147483648) = false := by simp [c1]
      by_cases c2 : gmul a g = 2147483647
      · have k2 : (gmul a g == 2147483647) = true := by simp [c2]
        have z := Q.out.2.1 c2
        clear c1 c2
        go_enter Try.func7, Try.ntmps7
        go_wp2_with (first | (go_at_call 10; refine (sane_any _).mono ?_; rintro e w1 ⟨rfl, hb1⟩) | (go_at_call 11; refine (clip_any _ _).mono ?_; rintro e w' ⟨rfl, rfl⟩) | (go_at_call 15; refine (mul_any _ _ _).mono ?_; rintro e w' ⟨rfl, rfl⟩))
        all_goals (go_ret; exact ⟨by simp, hb1⟩)
      · have k2 : (gmul a g == 2147483647) = false := by simp [c2]
        obtain ⟨z1, z2⟩ := Q.out.2.2 c1 c2
        clear c1 c2
        go_enter Try.func7, Try.ntmps7
        go_wp2_with (first | (go_at_call 10; refine (sane_any _).mono ?_; rintro e w1 ⟨rfl, hb1⟩) | (go_at_call 11; refine (clip_any _ _).mono ?_; rintro e w' ⟨rfl, rfl⟩) | (go_at_call 15; refine (mul_any _ _ _).mono ?_; rintro e w' ⟨rfl, rfl⟩))
        all_goals (go_ret; exact ⟨by simp, hb1⟩)
  · by_cases r1 : -2147483648 ≤ a
    · have r2 : 2147483647 < a := by omega
      clear hr
      by_cases c1 : gmul a g = -2147483648
      · have k1 : (gmul a g == -2147483648) = true := by simp [c1]
        have z := Q.out.1 c1
        clear c1
        go_enter Try.func7, Try.ntmps7
        go_wp2_with (first | (go_at_call 10; refine (sane_any _).mono ?_; rintro e w1 ⟨rfl, hb1⟩) | (go_at_call 11; refine (clip_any _ _).mono ?_; rintro e w' ⟨rfl, rfl⟩) | (go_at_call 15; refine (mul_any _ _ _).mono ?_; rintro e w' ⟨rfl, rfl⟩))
        all_goals (go_ret; exact ⟨by simp, hb1⟩)
      · have k1 : (gmul a g == -2147483648) = false := by simp [c1]
        by_cases c2 : gmul a g = 2147483647
        · have k2 : (gmul a g == 2147483647) = true := by simp [c2]
          have z := Q.out.2.1 c2
          clear c1 c2
          go_enter Try.func7, Try.ntmps7
          go_wp2_with (first | (go_at_call 10; refine (sane_any _).mono ?_; rintro e w1 ⟨rfl, hb1⟩) | (go_at_call 11; refine (clip_any _ _).mono ?_; rintro e w' ⟨rfl, rfl⟩) | (go_at_call 15; refine (mul_any _ _ _).mono ?_; rintro e w' ⟨rfl, rfl⟩))
          all_goals (go_ret; exact ⟨by simp, hb1⟩)
        · have k2 : (gmul a g == 2147483647) = false := by simp [c2]
          obtain ⟨z1, z2⟩ := Q.out.2.2 c1 c2
          clear c1 c2
          go_enter Try.func7, Try.ntmps7
          go_wp2_with (first | (go_at_call 10; refine (sane_any _).mono ?_; rintro e w1 ⟨rfl, hb1⟩) | (go_at_call 11; refine (clip_any _ _).mono ?_; rintro e w' ⟨rfl, rfl⟩) | (go_at_call 15; refine (mul_any _ _ _).mono ?_; rintro e w' ⟨rfl, rfl⟩))
          all_goals (go_ret; exact ⟨by simp, hb1⟩)
    · clear hr
      by_cases c1 : gmul a g = -2147483648
      · have k1 : (gmul a g == -2147483648) = true := by simp [c1]
        have z := Q.out.1 c1
        clear c1
        go_enter Try.func7, Try.ntmps7
        go_wp2_with (first | (go_at_call 10; refine (sane_any _).mono ?_; rintro e w1 ⟨rfl, hb1⟩) | (go_at_call 11; refine (clip_any _ _).mono ?_; rintro e w' ⟨rfl, rfl⟩) | (go_at_call 15; refine (mul_any _ _ _).mono ?_; rintro e w' ⟨rfl, rfl⟩))
        all_goals (go_ret; exact ⟨by simp, hb1⟩)
      · have k1 : (gmul a g == -2147483648) = false := by simp [c1]
        by_cases c2 : gmul a g = 2147483647
        · have k2 : (gmul a g == 2147483647) = true := by simp [c2]
          have z := Q.out.2.1 c2
          clear c1 c2
          go_enter Try.func7, Try.ntmps7
          go_wp2_with (first | (go_at_call 10; refine (sane_any _).mono ?_; rintro e w1 ⟨rfl, hb1⟩) | (go_at_call 11; refine (clip_any _ _).mono ?_; rintro e w' ⟨rfl, rfl⟩) | (go_at_call 15; refine (mul_any _ _ _).mono ?_; rintro e w' ⟨rfl, rfl⟩))
          all_goals (go_ret; exact ⟨by simp, hb1⟩)
        · have k2 : (gmul a g == 2147483647) = false := by simp [c2]
          obtain ⟨z1, z2⟩ := Q.out.2.2 c1 c2
          clear c1 c2
          go_enter Try.func7, Try.ntmps7
          go_wp2_with (first | (go_at_call 10; refine (sane_any _).mono ?_; rintro e w1 ⟨rfl, hb1⟩) | (go_at_call 11; refine (clip_any _ _).mono ?_; rintro e w' ⟨rfl, rfl⟩) | (go_at_call 15; refine (mul_any _ _ _).mono ?_; rintro e w' ⟨rfl, rfl⟩))
          all_goals (go_ret; exact ⟨by simp, hb1⟩)
end Go.Proofs.Ytcljkjachaecoaa
