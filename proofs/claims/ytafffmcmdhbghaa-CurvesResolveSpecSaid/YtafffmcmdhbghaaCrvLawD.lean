/- The walk of CurvesResolveSpec (layer 11). -/
import Derived.Test.YtafffmcmdhbghaaCrvSane
import Derived.Test.YtafffmcmdhbghaaCrvRRes
namespace Go.Proofs.Ytafffmcmdhbghaa
open Go.ChangeShapes Go.WideShapes Go.ChangeAt Go.RowKit

theorem res_bad {m : List Tp} {l : List Kt} {w w' : World} {e : Ending} (h : ResR m l w e w') (hx : resE m l ≠ 0) : e = .returned (.tuple #[.slice none 0 0, .int .i64 (resE m l)]) := by
  rcases h with ⟨_, h⟩ | ⟨h, _⟩
  · exact h
  · exact absurd h hx

set_option maxHeartbeats 4000000 in
theorem curvesResolveSpec_walk (ma : Option Addr) (mb moff mn mcap : Nat) (m : List Tp) (a : Option Addr) (b off n cap : Nat) (l : List Kt) (w : World) (hT : Ts w ma mn mb moff m) (hmn : mn ≤ 9223372036854775807) (hmb : 0 < mn → ∃ c tb fr, w.heap[mb]? = some (.cells c tb fr)) (hM : Ks w a n b off l) (hn : n ≤ 9223372036854775807) (hnc : a = none → cap = 0) :
    Calls Try.prog 5 #[.slice ma mn mcap, .slice a n cap] w fun e w' => e = .returned (.bool true) ∧ Below w.heap.size w w' := by
  have HM := Lib.hid (show _ ∧ _ ∧ _ from ⟨hT, hmb, hM⟩)
  clear hM hT hmb
  go_enter Try.func5, Try.ntmps5
  go_wp2_with fail
  refine (sane_any w).mono ?_; rintro e w1 ⟨rfl, hB⟩
  go_wp2_with fail
  refine (rfew_any a n cap w1).mono ?_; rintro e w' ⟨rfl, rfl⟩
  by_cases hf : (n : Int) ≤ 1100
  case neg =>
    rw [decide_eq_false hf]
    go_wp2
    go_ret
    exact ⟨rfl, hB⟩
  rw [decide_eq_true hf]
  by_cases q1 : (80 : Int) < (mn : Int)
  · go_wp2
    go_ret
    exact ⟨rfl, hB⟩
  go_wp2_with fail
  refine (resolve_any ma mb moff mn mcap m a b off n cap l _ (HM.out.1.grown hB) hmn (blk_has2 HM.out.2.1 hB) (HM.out.2.2.grown hB) hn hnc).mono ?_; rintro e w2 ⟨hR, hb⟩
  replace hB := below_after hB hb hB.size
  clear hb
  by_cases hE : resE m l = 0
  case neg =>
    obtain rfl := res_bad hR hE
    clear hR
    have HE := Lib.hid hE
    clear hE
    go_wp2_with fail
    refine (rresolve_any ma mb moff mn mcap m a b off n cap l _ (HM.out.1.grown hB) hmn (HM.out.2.2.grown hB) hn).mono ?_; rintro e w3 ⟨hR, hb⟩
    replace hB := below_after hB hb hB.size
    clear hb
    obtain rfl := res_bad hR HE.out
    clear hR
    go_wp2_with fail
    refine (rsameK_any none none 0 0 0 0 0 0 0 0 [] [] _ (Ks.zero _ _) (Ks.zero _ _) (by omega) rfl).mono ?_; rintro e w4 ⟨rfl, hb⟩
    replace hB := below_after hB hb hB.size
    clear hb
    go_wp2
    go_ret
    exact ⟨by simp, hB⟩
  obtain ⟨v2, rfl, hO⟩ := res_get hR hE rfl
  obtain ⟨a2, b2, c2, rfl, R2, -, -, -, hcm⟩ := hO.s
  have hl2 : (stays (mvL m l)).length ≤ 1100 := by
    have := outK_len (mvL m l) (mvL m l).length
    rw [outK_all, mvL_len, HM.out.2.2.1] at this
    omega
  clear hR hO
  generalize hs : stays (mvL m l) = s at *
  have HE := Lib.hid (show _ ∧ _ from ⟨hE, hs⟩)
  clear hE hs
  go_wp2_with fail
  refine (rresolve_any ma mb moff mn mcap m a b off n cap l _ (HM.out.1.grown hB) hmn (HM.out.2.2.grown hB) hn).mono ?_; rintro e w3 ⟨hR, hb⟩
  replace hB := below_after hB hb hB.size
  obtain ⟨v3, rfl, hO⟩ := res_get hR HE.out.1 HE.out.2
  obtain ⟨a3, b3, c3, rfl, R3, -, -, -, -⟩ := hO.s
  replace R2 := R2.grown hb
  clear hR hO hb
  go_wp2_with fail
  refine (rsameK_any a2 a3 b2 b3 0 0 _ _ c2 c3 s s _ R2 R3 (by omega) rfl).mono ?_; rintro e w4 ⟨rfl, hb⟩
  replace hB := below_after hB hb hB.size
  clear hb
  go_wp2
  go_ret
  exact ⟨rfl, hB⟩
end Go.Proofs.Ytafffmcmdhbghaa
