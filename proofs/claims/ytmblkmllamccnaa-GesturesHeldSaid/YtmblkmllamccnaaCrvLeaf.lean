/- Leaf contracts of fixed, for the layers above it. -/
import Derived.Test.YtmblkmllamccnaaWithin
import Derived.Test.YtmblkmllamccnaaDiv
namespace Go.Proofs.Ytmblkmllamccnaa
open Go.ChangeShapes Go.WideShapes Go.ChangeAt Go.RowKit

def clip (x : Int) : Int := max (-2147483648) (min x 2147483647)
theorem clip_lo (x : Int) : -2147483648 ≤ clip x := by unfold clip; omega
theorem clip_hi (x : Int) : clip x ≤ 2147483647 := by unfold clip; omega

theorem hold_any (v lo hi : Int) (w : World) :
    Calls Try.prog 59 #[.int .i64 v, .int .i64 lo, .int .i64 hi] w fun e w' => e = .returned (.int .i64 (max lo (min v hi))) ∧ w = w' := by
  go_enter Try.func59, Try.ntmps59
  go_wp2
  all_goals (go_ret; exact ⟨ret_int (by omega), rfl⟩)

theorem clip_any (x : Int) (w : World) :
    Calls Try.prog 51 #[.int .i64 x] w fun e w' => e = .returned (.int .i64 (clip x)) ∧ w = w' := by
  go_enter Try.func51, Try.ntmps51
  go_wp2_with (go_at_call 59; refine (hold_any _ _ _ _).mono ?_; rintro e w' ⟨rfl, rfl⟩)
  go_ret
  exact ⟨rfl, rfl⟩

theorem rclip_any (x : Int) (w : World) :
    Calls Try.prog 19 #[.int .i64 x] w fun e w' => e = .returned (.int .i64 (clip x)) ∧ w = w' := by
  go_enter Try.func19, Try.ntmps19
  go_wp2
  all_goals (go_ret; exact ⟨ret_int (by unfold clip; omega), rfl⟩)

theorem rfloor_any (a b : Int) (w : World) (hb : 0 < b) (hb2 : b ≤ 9223372036854775807) (ha1 : -9223372036854775808 ≤ a) (ha2 : a ≤ 9223372036854775807) :
    Calls Try.prog 60 #[.int .i64 a, .int .i64 b] w fun e w' => e = .returned (.int .i64 (a / b)) ∧ w = w' := by
  have hq := ediv_in hb ha1 ha2 (by omega) (by omega)
  go_enter Try.func60, Try.ntmps60
  go_wp2
  · have h : a.tmod b < 0 := by assumption
    have e := tdiv_low hb h
    go_ret
    exact ⟨ret_int (by rw [IntWalk.wrap64_in _ (by omega)]; exact e), rfl⟩
  · have h : 0 ≤ a.tmod b := by assumption
    have e := tdiv_high hb h
    go_ret
    exact ⟨ret_int e, rfl⟩

end Go.Proofs.Ytmblkmllamccnaa
