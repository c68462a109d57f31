/- Small facts of arithmetic (those of layer 9's text that the curves need). -/
import Derived.Test.YtmblkmllamccnaaWithin
import Derived.BigQuiet
import Derived.Test.YtmblkmllamccnaaDiv
import Derived.Test.YtmblkmllamccnaaRound
namespace Go.Proofs.Ytmblkmllamccnaa
open Go.ChangeShapes Go.WideShapes Go.ChangeAt Go.RowKit

theorem mul_le {x y X Y : Int} (h0 : 0 ≤ x) (h1 : x ≤ X) (h2 : 0 ≤ y) (h3 : y ≤ Y) : 0 ≤ x * y ∧ x * y ≤ X * Y :=
  ⟨Int.mul_nonneg h0 h2, Int.le_trans (Int.mul_le_mul_of_nonneg_right h1 h2) (Int.mul_le_mul_of_nonneg_left h3 (by omega))⟩
theorem mul_le1 {x y X Y : Int} (h0 : 1 ≤ x) (h1 : x ≤ X) (h2 : 1 ≤ y) (h3 : y ≤ Y) : 1 ≤ x * y ∧ x * y ≤ X * Y := by
  have a := mul_le (x := x) (y := y) (by omega) h1 (by omega) h3
  have b := Int.mul_pos (show 0 < x by omega) (show 0 < y by omega)
  omega
theorem abs_mul {x y X Y : Int} (h0 : -X ≤ x) (h1 : x ≤ X) (h2 : 0 ≤ y) (h3 : y ≤ Y) (hX : 0 ≤ X) : -(X * Y) ≤ x * y ∧ x * y ≤ X * Y := by
  have a := Int.mul_le_mul_of_nonneg_right h1 h2
  have b := Int.mul_le_mul_of_nonneg_right h0 h2
  have c := Int.mul_le_mul_of_nonneg_left h3 hX
  rw [Int.neg_mul] at b
  omega
theorem wrap_in (x : Int) : -9223372036854775808 ≤ IntKind.i64.wrap x ∧ IntKind.i64.wrap x ≤ 9223372036854775807 := by rw [IntKind.wrap_i64]; omega
theorem wrap_id {x : Int} (h : -9223372036854775808 ≤ x ∧ x ≤ 9223372036854775807) : IntKind.i64.wrap x = x := by rw [IntKind.wrap_i64]; omega

end Go.Proofs.Ytmblkmllamccnaa
