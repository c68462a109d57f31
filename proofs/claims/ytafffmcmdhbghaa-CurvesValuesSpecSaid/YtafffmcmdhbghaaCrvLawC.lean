/- The walk of CurvesValuesSpec (layer 11). -/
import Derived.Test.YtafffmcmdhbghaaCrvSane
namespace Go.Proofs.Ytafffmcmdhbghaa
open Go.ChangeShapes Go.WideShapes Go.ChangeAt Go.RowKit

theorem row0 (w : World) : Row w none 0 0 0 [] := ⟨rfl, fun h => by omega, fun h => by omega, fun i hi => by omega⟩

set_option maxHeartbeats 4000000 in
theorem curvesValuesSpec_walk (a : Option Addr) (b off n cap : Nat) (l : List Kt) (f N : Int) (w : World) (hM : Ks w a n b off l) (hn : n ≤ 9223372036854775807) (hnc : a = none → cap = 0) (hlc : n ≤ cap) :
    Calls Try.prog 4 #[.slice a n cap, .int .i64 f, .int .i64 N] w fun e w' => e = .returned (.bool true) ∧ Below w.heap.size w w' := by
  have HM := Lib.hid hM
  clear hM
  go_enter Try.func4, Try.ntmps4
  go_wp2_with fail
  refine (sane_any w).mono ?_; rintro e w1 ⟨rfl, hB⟩
  go_wp2_with fail
  refine (rfew_any a n cap w1).mono ?_; rintro e w' ⟨rfl, rfl⟩
  by_cases hf : (n : Int) ≤ 1100
  case neg =>
    rw [decide_eq_false hf]
    go_wp2
    go_ret
    exact ⟨rfl, hB⟩
  rw [decide_eq_true hf]
  by_cases hN : 300 < N ∧ N ≤ 65536
  · have q1 := hN.1; have q2 := hN.2
    go_wp2
    go_ret
    exact ⟨rfl, hB⟩
  have HN := Lib.hid hN
  have hq : ¬ 300 < N ∨ (300 < N ∧ ¬ N ≤ 65536) := by omega
  clear hN
  rcases hq with q1 | ⟨q1, q2⟩
  all_goals
    go_wp2_with fail
    refine (cvalues_any a b off n cap l f N _ (HM.out.grown hB) hn hnc hlc).mono ?_; rintro e w2 ⟨hR, hb⟩
    replace hB := below_after hB hb hB.size
    clear hb
    have hR' := hR
    rcases hR with ⟨hE, rfl⟩ | ⟨hE, hC, hF, N', rfl, hN2, v, rfl, hO⟩
    · generalize hx : valsE l f N = E at *
      go_wp2_with fail
      refine (rcvalues_any a b off n cap l f N _ (HM.out.grown hB) hn).mono ?_; rintro e w3 ⟨hR, hb⟩
      replace hB := below_after hB hb hB.size
      clear hb
      obtain rfl := vals_bad hR hx hE
      clear hR hR' hx
      go_wp2_with fail
      refine (rsameInts_any none none 0 0 0 0 0 0 0 0 [] [] _ (row0 _) (row0 _) (by omega) rfl).mono ?_; rintro e w4 ⟨rfl, hb⟩
      replace hB := below_after hB hb hB.size
      clear hb
      go_wp2
      go_ret
      exact ⟨by simp, hB⟩
    · obtain ⟨a2, b2, c2, rfl, R2, -, -⟩ := hO.row
      have hl2 : (vals l f N').length = N' := by simp [vals]
      clear hR' hO
      rw [hl2] at R2 ⊢
      go_wp2_with fail
      refine (rcvalues_any a b off n cap l f N' _ (HM.out.grown hB) hn).mono ?_; rintro e w3 ⟨hR, hb⟩
      replace hB := below_after hB hb hB.size
      obtain ⟨v3, rfl, hO⟩ := vals_get (n := N') hR hC hF hN2 rfl
      obtain ⟨a3, b3, c3, rfl, R3, -, -⟩ := hO.row
      rw [hl2] at R3 ⊢
      replace R2 := R2.below hb (Nat.le_refl _)
      clear hR hO hb
      go_wp2_with fail
      refine (rsameInts_any a2 a3 b2 b3 0 0 N' N' c2 c3 _ _ _ R2 R3 (by omega) rfl).mono ?_; rintro e w4 ⟨rfl, hb⟩
      replace hB := below_after hB hb hB.size
      clear hb
      go_wp2
      go_ret
      exact ⟨rfl, hB⟩
end Go.Proofs.Ytafffmcmdhbghaa
