/- The gains of a fade (layer 27). -/
import Derived.Test.YtagikfiiljdpnaaFixLeaf
namespace Go.Proofs.Ytagikfiiljdpnaa
open Go.ChangeShapes Go.WideShapes Go.ChangeAt Go.RowKit

def gainV (i n : Int) : Int := (i + 1) * 65536 / (n + 1)
theorem gainV_bd {i n : Int} (h1 : 0 ≤ i) (h2 : i < n) : 0 ≤ gainV i n ∧ gainV i n < 65536 := by
  unfold gainV
  exact ⟨Int.ediv_nonneg (by omega) (by omega), Int.ediv_lt_of_lt_mul (by omega) (by omega)⟩
def GOk (i n : Int) : Prop := 0 ≤ i ∧ i < n ∧ n ≤ 16777216
instance (i n : Int) : Decidable (GOk i n) := by unfold GOk; infer_instance
def gnR (i n : Int) : Int := if GOk i n then gainV i n else 0
def gnE (i n : Int) : Int := if GOk i n then 0 else 1

theorem gain_any (i n : Int) (w : World) (h1 : 0 ≤ i) (h2 : i < n) (h3 : n ≤ 16777216) :
    Calls Try.prog 24 #[.int .i64 i, .int .i64 n] w fun e w' => e = .returned (.int .i64 (gainV i n)) ∧ w = w' := by
  have zb : (n + 1 == 0) = false := by simp; omega
  have zb2 : ¬ n + 1 = 0 := by omega
  have z0 : IntKind.i64.wrap (i + 1) = i + 1 := by rw [IntKind.wrap_i64]; omega
  have z1 : IntKind.i64.wrap ((i + 1) * 65536) = (i + 1) * 65536 := by rw [IntKind.wrap_i64]; omega
  have z2 : IntKind.i64.wrap (n + 1) = n + 1 := by rw [IntKind.wrap_i64]; omega
  have b := gainV_bd h1 h2
  have td : ((i + 1) * 65536).tdiv (n + 1) = gainV i n := Int.tdiv_eq_ediv_of_nonneg (by omega)
  have te : (i + 1) * 65536 / (n + 1) = gainV i n := rfl
  have z3 : IntKind.i64.wrap (gainV i n) = gainV i n := by rw [IntKind.wrap_i64]; omega
  generalize gainV i n = g at *
  go_enter Try.func24, Try.ntmps24
  go_wp2
  go_ret
  exact ⟨rfl, rfl⟩
theorem rgain_any (i n : Int) (w : World) (h1 : 0 ≤ i) (h2 : i < n) (h3 : n ≤ 16777216) :
    Calls Try.prog 25 #[.int .i64 i, .int .i64 n] w fun e w' => e = .returned (.int .i64 (gainV i n)) ∧ w = w' := by
  have zb : (n + 1 == 0) = false := by simp; omega
  have zb2 : ¬ n + 1 = 0 := by omega
  have z0 : IntKind.i64.wrap (i + 1) = i + 1 := by rw [IntKind.wrap_i64]; omega
  have z1 : IntKind.i64.wrap ((i + 1) * 65536) = (i + 1) * 65536 := by rw [IntKind.wrap_i64]; omega
  have z2 : IntKind.i64.wrap (n + 1) = n + 1 := by rw [IntKind.wrap_i64]; omega
  have b := gainV_bd h1 h2
  have td : ((i + 1) * 65536).tdiv (n + 1) = gainV i n := Int.tdiv_eq_ediv_of_nonneg (by omega)
  have te : (i + 1) * 65536 / (n + 1) = gainV i n := rfl
  have z3 : IntKind.i64.wrap (gainV i n) = gainV i n := by rw [IntKind.wrap_i64]; omega
  generalize gainV i n = g at *
  go_enter Try.func25, Try.ntmps25
  go_wp2
  go_ret
  exact ⟨rfl, rfl⟩

set_option maxHeartbeats 1000000 in
theorem fgain_any (i n : Int) (w : World) :
    Calls Try.prog 11 #[.int .i64 i, .int .i64 n] w fun e w' => e = .returned (.tuple #[.int .i64 (gnR i n), .int .i64 (gnE i n)]) ∧ w = w' := by
  unfold gnR gnE
  by_cases h : GOk i n
  · rw [if_pos h, if_pos h]
    obtain ⟨h1, h2, h3⟩ := h
    go_enter Try.func11, Try.ntmps11
    go_wp2_with (go_at_call 24; refine (gain_any _ _ _ h1 h2 h3).mono ?_; rintro e w' ⟨rfl, rfl⟩)
    go_ret2
    exact ⟨rfl, rfl⟩
  · rw [if_neg h, if_neg h]
    rcases (show i < 0 ∨ (0 ≤ i ∧ n ≤ i) ∨ (0 ≤ i ∧ i < n ∧ 16777216 < n) by unfold GOk at h; omega) with h1 | h1 | h1
    all_goals
      clear h
      go_enter Try.func11, Try.ntmps11
      go_wp2
      go_ret2
      exact ⟨rfl, rfl⟩
set_option maxHeartbeats 1000000 in
theorem rfgain_any (i n : Int) (w : World) :
    Calls Try.prog 12 #[.int .i64 i, .int .i64 n] w fun e w' => e = .returned (.tuple #[.int .i64 (gnR i n), .int .i64 (gnE i n)]) ∧ w = w' := by
  unfold gnR gnE
  by_cases h : GOk i n
  · rw [if_pos h, if_pos h]
    obtain ⟨h1, h2, h3⟩ := h
    go_enter Try.func12, Try.ntmps12
    go_wp2_with (go_at_call 25; refine (rgain_any _ _ _ h1 h2 h3).mono ?_; rintro e w' ⟨rfl, rfl⟩)
    go_ret2
    exact ⟨rfl, rfl⟩
  · rw [if_neg h, if_neg h]
    rcases (show i < 0 ∨ (0 ≤ i ∧ n ≤ i) ∨ (0 ≤ i ∧ i < n ∧ 16777216 < n) by unfold GOk at h; omega) with h1 | h1 | h1
    all_goals
      clear h
      go_enter Try.func12, Try.ntmps12
      go_wp2
      go_ret2
      exact ⟨rfl, rfl⟩
end Go.Proofs.Ytagikfiiljdpnaa
