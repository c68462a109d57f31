/- The contract of whole.Div. -/
import Derived.Test.YthncfhfnboocmaaBase
namespace Go.Proofs.Ythncfhfnboocmaa
open Go.ChangeShapes Go.WideShapes Go.ChangeAt Go.RowKit

theorem div_any (a b : Int) (w : World) (hb : 0 < b) (hb2 : b ≤ 9223372036854775807) (ha1 : -9223372036854775808 ≤ a) (ha2 : a ≤ 9223372036854775807) :
    Calls Try.prog 29 #[.int .i64 a, .int .i64 b] w fun e w' => e = .returned (.int .i64 (a / b)) ∧ w = w' := by
  have hq := ediv_in hb ha1 ha2 (by omega) (by omega)
  go_enter Try.func29, Try.ntmps29
  go_wp2
  · have h : a.tmod b < 0 := by assumption
    have e := tdiv_low hb h
    go_ret
    exact ⟨ret_int (by rw [IntWalk.wrap64_in _ (by omega)]; exact e), rfl⟩
  · have h : 0 ≤ a.tmod b := by assumption
    have e := tdiv_high hb h
    go_ret
    exact ⟨ret_int e, rfl⟩

end Go.Proofs.Ythncfhfnboocmaa
