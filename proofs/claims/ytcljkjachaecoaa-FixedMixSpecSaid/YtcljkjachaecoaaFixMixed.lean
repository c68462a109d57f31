/- The walks of FixedMixSpec and FixedMixed (layer 8). -/
import Derived.Test.YtcljkjachaecoaaFixLaws
namespace Go.Proofs.Ytcljkjachaecoaa
open Go.ChangeShapes Go.WideShapes Go.ChangeAt Go.RowKit

set_option maxHeartbeats 400000 in
theorem fixedMixSpec_walk (a : Option Addr) (b off n cap : Nat) (l : List Int) (w : World) (hn : n ≤ 9223372036854775807) (ha : 0 < n → a = some ⟨b, off, none⟩) (hlt : 0 < n → b < w.heap.size)
    (hc : ∀ i, i < n → w.cell? ⟨b, off + i, none⟩ = some (.int .i64 (l.getD i 0))) :
    Calls Try.prog 4 #[.slice a n cap] w fun e w' => e = .returned (.bool true) ∧ Below w.heap.size w w' := by
  have HC := Lib.hid hc; have HA := Lib.hid ha; have HL := Lib.hid hlt; clear hc ha hlt
  have hb := Below.refl w.heap.size w
  by_cases hk : 300 < n
  · go_enter Try.func4, Try.ntmps4
    go_wp2_with (first | (go_at_call 10; refine (sane_any _).mono ?_; rintro e w2 ⟨rfl, hn⟩; replace hb := below_after hb hn hb.size; clear hn))
    go_ret
    exact ⟨by simp, hb⟩
  · go_enter Try.func4, Try.ntmps4
    go_wp2_with (first | (go_at_call 10; refine (sane_any _).mono ?_; rintro e w2 ⟨rfl, hn⟩; replace hb := below_after hb hn hb.size; clear hn) | (go_at_call 17; refine (mix_any _ b off _ _ l _ (by omega) HA.out ?_).mono ?_; rotate_left 1; rintro e w' ⟨rfl, rfl⟩) | (go_at_call 18; refine (rmix_any _ b off _ _ l _ (by omega) HA.out ?_).mono ?_; rotate_left 1; rintro e w' ⟨rfl, rfl⟩))
    · go_ret
      exact ⟨by simp, hb⟩
    all_goals (intro i hi; exact (hb.cell (p := ⟨b, off + i, none⟩) (HL.out (by omega))).trans (HC.out i hi))
end Go.Proofs.Ytcljkjachaecoaa
