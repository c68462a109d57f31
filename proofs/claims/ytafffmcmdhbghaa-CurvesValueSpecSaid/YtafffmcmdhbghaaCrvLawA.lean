/- The walk of CurvesValueSpec (layer 11). -/
import Derived.Test.YtafffmcmdhbghaaCrvSane
namespace Go.Proofs.Ytafffmcmdhbghaa
open Go.ChangeShapes Go.WideShapes Go.ChangeAt Go.RowKit

set_option maxHeartbeats 4000000 in
theorem curvesValueSpec_walk (a : Option Addr) (b off n cap : Nat) (l : List Kt) (at' : Int) (w : World) (hM : Ks w a n b off l) (hn : n ≤ 9223372036854775807) (hnc : a = none → cap = 0) (hlc : n ≤ cap) :
    Calls Try.prog 3 #[.slice a n cap, .int .i64 at'] w fun e w' => e = .returned (.bool true) ∧ Below w.heap.size w w' := by
  have HM := Lib.hid hM
  clear hM
  go_enter Try.func3, Try.ntmps3
  go_wp2_with fail
  refine (sane_any w).mono ?_; rintro e w1 ⟨rfl, hB⟩
  go_wp2_with fail
  refine (rfew_any a n cap w1).mono ?_; rintro e w' ⟨rfl, rfl⟩
  by_cases hf : (n : Int) ≤ 1100
  case neg =>
    rw [decide_eq_false hf]
    go_wp2
    go_ret
    exact ⟨rfl, hB⟩
  rw [decide_eq_true hf]
  go_wp2_with fail
  refine (cvalue_any a b off n cap l at' _ (HM.out.grown hB) hn hnc hlc).mono ?_; rintro e w2 ⟨rfl, hb⟩
  replace hB := below_after hB hb hB.size
  clear hb
  go_wp2_with fail
  refine (rcvalue_any a b off n cap l at' _ (HM.out.grown hB) hn).mono ?_; rintro e w3 ⟨rfl, hb⟩
  replace hB := below_after hB hb hB.size
  clear hb
  go_wp2_with fail
  refine (ccheck_any a b off n cap l _ (HM.out.grown hB) hn hnc hlc).mono ?_; rintro e w4 ⟨rfl, hb⟩
  replace hB := below_after hB hb hB.size
  clear hb
  go_wp2_with fail
  refine (rccheck_any a b off n cap l _ (HM.out.grown hB) hn).mono ?_; rintro e w5 ⟨rfl, hb⟩
  replace hB := below_after hB hb hB.size
  clear hb
  go_wp2
  go_ret
  exact ⟨by simp, hB⟩

end Go.Proofs.Ytafffmcmdhbghaa
