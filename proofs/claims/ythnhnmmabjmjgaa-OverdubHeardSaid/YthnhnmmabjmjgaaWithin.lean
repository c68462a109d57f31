/- The contract of whole.Within. -/
import Derived.Test.YthnhnmmabjmjgaaBase
namespace Go.Proofs.Ythnhnmmabjmjgaa
open Go.ChangeShapes Go.WideShapes Go.ChangeAt Go.RowKit

def within (v lo hi : Int) : Bool := decide (lo ≤ v ∧ v ≤ hi)
theorem within_t {v lo hi : Int} (h : lo ≤ v ∧ v ≤ hi) : within v lo hi = true := by unfold within; simpa using h
theorem within_f {v lo hi : Int} (h : ¬ (lo ≤ v ∧ v ≤ hi)) : within v lo hi = false := by unfold within; simpa using h

theorem within_any (v lo hi : Int) (w : World) :
    Calls Try.prog 27 #[.int .i64 v, .int .i64 lo, .int .i64 hi] w fun e w' => e = .returned (.bool (within v lo hi)) ∧ w = w' := by
  go_enter Try.func27, Try.ntmps27
  go_wp2
  all_goals go_ret
  all_goals exact ⟨ret_bool (by unfold within; simp; omega), rfl⟩

end Go.Proofs.Ythnhnmmabjmjgaa
