/- The reference's Value, Values, Same, SameInts, Few of curves (layer 11). -/
import Derived.Test.YtmblkmllamccnaaCrvROf
import Derived.Test.YtmblkmllamccnaaOwnRow
namespace Go.Proofs.Ytmblkmllamccnaa
open Go.ChangeShapes Go.WideShapes Go.ChangeAt Go.RowKit

set_option maxHeartbeats 2000000 in
theorem rcvalue_any (a : Option Addr) (b off n cap : Nat) (l : List Kt) (at' : Int) (w : World) (h : Ks w a n b off l) (hn : n ≤ 9223372036854775807) :
    Calls Try.prog 36 #[.slice a n cap, .int .i64 at'] w fun e w' => e = .returned (.tuple #[.int .i64 (valV l at'), .int .i64 (chkC l)]) ∧ Below w.heap.size w w' := by
  have HK := Lib.hid h
  clear h
  by_cases hch : Curve l
  · rw [valV_yes hch, chkC_yes hch]
    have hc := chkC_yes hch
    have HC := Lib.hid hch
    clear hch
    go_enter Try.func36, Try.ntmps36
    go_wp2_with fail
    refine (rccheck_any a b off n cap l _ HK.out hn).mono ?_; rintro e w1 ⟨rfl, hB⟩; rw [hc]
    go_wp2_with fail
    refine (rof_any a b off n cap l at' _ (HK.out.grown hB) HC.out).mono ?_; rintro e w2 ⟨rfl, hb⟩
    replace hB := below_after hB hb hB.size
    clear hb hc
    go_wp2
    exact bodyPost_ret (by simp [results, Try.results36, go_sem]) rfl ⟨rfl, hB⟩
  · rw [valV_no hch, chkC_no hch]
    have hc := chkC_no hch
    clear hch
    go_enter Try.func36, Try.ntmps36
    go_wp2_with fail
    refine (rccheck_any a b off n cap l _ HK.out hn).mono ?_; rintro e w1 ⟨rfl, hB⟩; rw [hc]
    clear hc
    go_wp2
    exact bodyPost_ret (by simp [results, Try.results36, go_sem]) rfl ⟨rfl, hB⟩
end Go.Proofs.Ytmblkmllamccnaa
