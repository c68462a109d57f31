/- The walks of the statements of layer 8 over numbers. -/
import Derived.Test.YtcljkjachaecoaaFixMix
namespace Go.Proofs.Ytcljkjachaecoaa
open Go.ChangeShapes Go.WideShapes Go.ChangeAt Go.RowKit

set_option maxHeartbeats 400000 in
theorem fixedSpec_walk (a b : Int) (w : World) (ha1 : -9223372036854775808 ≤ a) (ha2 : a ≤ 9223372036854775807) (hb1 : -9223372036854775808 ≤ b) (hb2 : b ≤ 9223372036854775807) :
    Calls Try.prog 3 #[.int .i64 a, .int .i64 b] w fun e w' => e = .returned (.bool true) ∧ Below w.heap.size w w' := by
  go_enter Try.func3, Try.ntmps3
  go_wp2_with (first | (go_at_call 10; refine (sane_any _).mono ?_; rintro e w1 ⟨rfl, hbb⟩) | (go_at_call 11; refine (clip_any _ _).mono ?_; rintro e w' ⟨rfl, rfl⟩) | (go_at_call 12; refine (rclip_any _ _).mono ?_; rintro e w' ⟨rfl, rfl⟩) | (go_at_call 13; refine (add_any _ _ _ ha1 ha2 hb1 hb2).mono ?_; rintro e w' ⟨rfl, rfl⟩) | (go_at_call 14; refine (radd_any _ _ _ ha1 ha2 hb1 hb2).mono ?_; rintro e w' ⟨rfl, rfl⟩) | (go_at_call 15; refine (mul_any _ _ _).mono ?_; rintro e w' ⟨rfl, rfl⟩) | (go_at_call 16; refine (rmul_any _ _ _).mono ?_; rintro e w' ⟨rfl, rfl⟩))
  go_ret
  exact ⟨by simp, hbb⟩

theorem mul_mono {g x y : Int} (hg : 0 ≤ g) (h : x ≤ y) : gmul x g ≤ gmul y g := by
  unfold gmul
  have h1 : clip x ≤ clip y := by unfold clip; omega
  have h2 : 0 ≤ clip g := by unfold clip; omega
  have h3 : clip x * clip g ≤ clip y * clip g := Int.mul_le_mul_of_nonneg_right h1 h2
  have h4 : clip x * clip g / 65536 ≤ clip y * clip g / 65536 := Int.ediv_le_ediv (by omega) h3
  generalize clip x * clip g / 65536 = p at *
  generalize clip y * clip g / 65536 = q at *
  unfold clip; omega
theorem clip_mono {x y : Int} (h : x ≤ y) : clip x ≤ clip y := by unfold clip; omega
def negG (c : Int) : Int := if c < 0 then -(c + 1) else c

theorem add_comm_b (x y : Int) : (clip (x + y) == clip (y + x)) = true := by rw [Int.add_comm]; simp

set_option maxHeartbeats 1000000 in
theorem fixedOrder_walk (a b c : Int) (w : World) (ha1 : -9223372036854775808 ≤ a) (ha2 : a ≤ 9223372036854775807) (hb1 : -9223372036854775808 ≤ b) (hb2 : b ≤ 9223372036854775807) (hc1 : -9223372036854775808 ≤ c) (hc2 : c ≤ 9223372036854775807) :
    Calls Try.prog 9 #[.int .i64 a, .int .i64 b, .int .i64 c] w fun e w' => e = .returned (.bool true) ∧ Below w.heap.size w w' := by
  by_cases h : b < a
  · have f1 : clip b ≤ clip a := clip_mono (by omega)
    have f2 : clip (b + c) ≤ clip (a + c) := clip_mono (by omega)
    have f3 := add_comm_b c a
    by_cases hc : c < 0
    · have f4 : gmul b (-(c + 1)) ≤ gmul a (-(c + 1)) := mul_mono (by omega) (by omega)
      go_enter Try.func9, Try.ntmps9
      go_wp2_with (first | (go_at_call 10; refine (sane_any _).mono ?_; rintro e w1 ⟨rfl, hbb⟩) | (go_at_call 11; refine (clip_any _ _).mono ?_; rintro e w' ⟨rfl, rfl⟩) | (go_at_call 13; refine (add_any _ _ _ (by omega) (by omega) (by omega) (by omega)).mono ?_; rintro e w' ⟨rfl, rfl⟩) | (go_at_call 15; refine (mul_any _ _ _).mono ?_; rintro e w' ⟨rfl, rfl⟩))
      go_ret
      exact ⟨by simp, hbb⟩
    · have f4 : gmul b c ≤ gmul a c := mul_mono (by omega) (by omega)
      go_enter Try.func9, Try.ntmps9
      go_wp2_with (first | (go_at_call 10; refine (sane_any _).mono ?_; rintro e w1 ⟨rfl, hbb⟩) | (go_at_call 11; refine (clip_any _ _).mono ?_; rintro e w' ⟨rfl, rfl⟩) | (go_at_call 13; refine (add_any _ _ _ (by omega) (by omega) (by omega) (by omega)).mono ?_; rintro e w' ⟨rfl, rfl⟩) | (go_at_call 15; refine (mul_any _ _ _).mono ?_; rintro e w' ⟨rfl, rfl⟩))
      go_ret
      exact ⟨by simp, hbb⟩
  · have f1 : clip a ≤ clip b := clip_mono (by omega)
    have f2 : clip (a + c) ≤ clip (b + c) := clip_mono (by omega)
    have f3 := add_comm_b c b
    by_cases he : a = b
    · subst he
      by_cases hc : c < 0
      · go_enter Try.func9, Try.ntmps9
        go_wp2_with (first | (go_at_call 10; refine (sane_any _).mono ?_; rintro e w1 ⟨rfl, hbb⟩) | (go_at_call 11; refine (clip_any _ _).mono ?_; rintro e w' ⟨rfl, rfl⟩) | (go_at_call 13; refine (add_any _ _ _ (by omega) (by omega) (by omega) (by omega)).mono ?_; rintro e w' ⟨rfl, rfl⟩) | (go_at_call 15; refine (mul_any _ _ _).mono ?_; rintro e w' ⟨rfl, rfl⟩))
        go_ret
        exact ⟨by simp, hbb⟩
      · go_enter Try.func9, Try.ntmps9
        go_wp2_with (first | (go_at_call 10; refine (sane_any _).mono ?_; rintro e w1 ⟨rfl, hbb⟩) | (go_at_call 11; refine (clip_any _ _).mono ?_; rintro e w' ⟨rfl, rfl⟩) | (go_at_call 13; refine (add_any _ _ _ (by omega) (by omega) (by omega) (by omega)).mono ?_; rintro e w' ⟨rfl, rfl⟩) | (go_at_call 15; refine (mul_any _ _ _).mono ?_; rintro e w' ⟨rfl, rfl⟩))
        go_ret
        exact ⟨by simp, hbb⟩
    · have hlt : a < b := by omega
      by_cases hc : c < 0
      · have f4 : gmul a (-(c + 1)) ≤ gmul b (-(c + 1)) := mul_mono (by omega) (by omega)
        go_enter Try.func9, Try.ntmps9
        go_wp2_with (first | (go_at_call 10; refine (sane_any _).mono ?_; rintro e w1 ⟨rfl, hbb⟩) | (go_at_call 11; refine (clip_any _ _).mono ?_; rintro e w' ⟨rfl, rfl⟩) | (go_at_call 13; refine (add_any _ _ _ (by omega) (by omega) (by omega) (by omega)).mono ?_; rintro e w' ⟨rfl, rfl⟩) | (go_at_call 15; refine (mul_any _ _ _).mono ?_; rintro e w' ⟨rfl, rfl⟩))
        go_ret
        exact ⟨by simp, hbb⟩
      · have f4 : gmul a c ≤ gmul b c := mul_mono (by omega) (by omega)
        go_enter Try.func9, Try.ntmps9
        go_wp2_with (first | (go_at_call 10; refine (sane_any _).mono ?_; rintro e w1 ⟨rfl, hbb⟩) | (go_at_call 11; refine (clip_any _ _).mono ?_; rintro e w' ⟨rfl, rfl⟩) | (go_at_call 13; refine (add_any _ _ _ (by omega) (by omega) (by omega) (by omega)).mono ?_; rintro e w' ⟨rfl, rfl⟩) | (go_at_call 15; refine (mul_any _ _ _).mono ?_; rintro e w' ⟨rfl, rfl⟩))
        go_ret
        exact ⟨by simp, hbb⟩

end Go.Proofs.Ytcljkjachaecoaa
