/- The walk of TempoSampleSpec (layer 9). -/
import Derived.Test.YtcgndcapdodhlaaTemSane
import Derived.Test.YtcgndcapdodhlaaTemAt2
namespace Go.Proofs.Ytcgndcapdodhlaa
open Go.ChangeShapes Go.WideShapes Go.ChangeAt Go.RowKit

theorem blk_has {w w' : World} {n b : Nat} (h : 0 < n → ∃ c tb fr, w.heap[b]? = some (.cells c tb fr)) (hb : Below w.heap.size w w') : 0 < n → ∃ c tb fr, w'.heap[b]? = some (.cells c tb fr) := fun hn => by
  obtain ⟨c, tb, fr, h1⟩ := h hn
  exact ⟨c, tb, fr, blk_below h1 hb (Array.getElem?_eq_some_iff.1 h1).1⟩

set_option maxHeartbeats 4000000 in
theorem tempoSampleSpec_walk (a : Option Addr) (b off len cap : Nat) (l : List Tp) (tick : Int) (w : World) (hM : Ts w a len b off l) (hn : len ≤ 9223372036854775807) (hb : 0 < len → ∃ c tb fr, w.heap[b]? = some (.cells c tb fr)) :
    Calls Try.prog 3 #[.slice a len cap, .int .i64 tick] w fun e w' => e = .returned (.bool true) ∧ Below w.heap.size w w' := by
  have HM := Lib.hid (show _ ∧ _ from ⟨hM, hb⟩)
  clear hb hM
  go_enter Try.func3, Try.ntmps3
  go_wp2_with fail
  refine (sane_any w).mono ?_; rintro e w1 ⟨rfl, hB⟩
  by_cases hf : (len : Int) ≤ 80
  case neg =>
    have hf2 : (80 : Int) < (len : Int) := by omega
    go_wp2
    go_ret
    exact ⟨rfl, hB⟩
  have hf2 : ¬ (80 : Int) < (len : Int) := by omega
  go_wp2_with fail
  refine (tsample_any a b off len cap l tick _ (HM.out.1.grown hB) hn (blk_has HM.out.2 hB)).mono ?_; rintro e w2 ⟨rfl, hb⟩
  replace hB := below_after hB hb hB.size
  clear hb
  go_wp2_with fail
  refine (rsample_any a b off len cap l tick _ (HM.out.1.grown hB) hn).mono ?_; rintro e w3 ⟨rfl, hb⟩
  replace hB := below_after hB hb hB.size
  clear hb
  go_wp2_with fail
  refine (tcheck_any a len cap b off l _ (HM.out.1.grown hB) hn).mono ?_; rintro e w4 ⟨rfl, hb⟩
  replace hB := below_after hB hb hB.size
  clear hb
  go_wp2_with fail
  refine (rcheck_any a len cap b off l _ (HM.out.1.grown hB) hn).mono ?_; rintro e w5 ⟨rfl, hb⟩
  replace hB := below_after hB hb hB.size
  clear hb
  go_wp2
  go_ret
  exact ⟨rfl, hB⟩
end Go.Proofs.Ytcgndcapdodhlaa
