/- Reduced fractions: plain arithmetic (layer 7). -/
import Derived.Test.YtaaoekddhgjckaaRatCalc
namespace Go.Proofs.Ytaaoekddhgjckaa

theorem red_form {n d : Int} (h : d ≠ 0) : (redN n d = n / Int.gcd n d ∧ redD n d = d / Int.gcd n d ∧ 0 < d ∧ gs n d = Int.gcd n d) ∨ (redN n d = -(n / Int.gcd n d) ∧ redD n d = -(d / Int.gcd n d) ∧ d < 0 ∧ gs n d = -(Int.gcd n d : Int)) := by
  have h1 : (Int.gcd n d : Int) ∣ n := Int.gcd_dvd_left n d
  have h2 : (Int.gcd n d : Int) ∣ d := Int.gcd_dvd_right n d
  unfold redN redD gs
  rcases sgn_cases h with ⟨e, p⟩ | ⟨e, p⟩
  · left
    rw [e, Int.mul_one]
    exact ⟨Int.tdiv_eq_ediv_of_dvd h1, Int.tdiv_eq_ediv_of_dvd h2, p, rfl⟩
  · right
    rw [e, show (Int.gcd n d : Int) * -1 = -(Int.gcd n d : Int) by omega, Int.tdiv_neg, Int.tdiv_neg, Int.tdiv_eq_ediv_of_dvd h1, Int.tdiv_eq_ediv_of_dvd h2]
    exact ⟨rfl, rfl, p, rfl⟩

theorem red_spec {n d : Int} (h : d ≠ 0) : gs n d ≠ 0 ∧ redN n d * gs n d = n ∧ redD n d * gs n d = d ∧ 1 ≤ redD n d ∧ Int.gcd (redN n d) (redD n d) = 1 := by
  have h1 : (Int.gcd n d : Int) ∣ n := Int.gcd_dvd_left n d
  have h2 : (Int.gcd n d : Int) ∣ d := Int.gcd_dvd_right n d
  have g := gcd_bd (n := n) h
  have g1 := Int.ediv_mul_cancel h1
  have g2 := Int.ediv_mul_cancel h2
  have c : Int.gcd (n / Int.gcd n d) (d / Int.gcd n d) = 1 := Int.gcd_ediv_gcd_ediv_gcd (by omega)
  rcases red_form (n := n) h with ⟨e1, e2, p, e3⟩ | ⟨e1, e2, p, e3⟩
  · rw [e1, e2, e3]
    refine ⟨by omega, g1, g2, ?_, c⟩
    have : 0 < d / Int.gcd n d := Int.ediv_pos_of_pos_of_dvd p (by omega) h2
    omega
  · rw [e1, e2, e3]
    refine ⟨by omega, by rw [Int.neg_mul_neg]; exact g1, by rw [Int.neg_mul_neg]; exact g2, ?_, by rw [Int.neg_gcd, Int.gcd_neg]; exact c⟩
    have : d / Int.gcd n d < 0 := by
      refine Int.lt_of_not_ge fun k => ?_
      have := Int.mul_nonneg k (show (0 : Int) ≤ Int.gcd n d by omega)
      omega
    omega

theorem cop_dvd {N D b : Int} (hc : Int.gcd N D = 1) (h : D ∣ N * b) : D ∣ b := by
  rw [← Int.natAbs_dvd_natAbs, Int.natAbs_mul] at h
  rw [← Int.natAbs_dvd_natAbs]
  refine Nat.Coprime.dvd_of_dvd_mul_left ?_ h
  rw [Nat.coprime_comm]; exact hc

theorem cop_unique {N D a b : Int} (h1 : 1 ≤ D) (h2 : Int.gcd N D = 1) (k1 : 1 ≤ b) (k2 : Int.gcd a b = 1) (e : N * b = a * D) : a = N ∧ b = D := by
  have d1 : D ∣ b := cop_dvd h2 ⟨a, by rw [e, Int.mul_comm]⟩
  have d2 : b ∣ D := cop_dvd k2 ⟨N, by rw [← e, Int.mul_comm]⟩
  have e2 : b = D := by
    have := Int.le_of_dvd (by omega) d1
    have := Int.le_of_dvd (by omega) d2
    omega
  subst e2
  exact ⟨(Int.eq_of_mul_eq_mul_right (by omega) e).symm, rfl⟩

theorem red_unique {n d N D : Int} (h : d ≠ 0) (h1 : 1 ≤ D) (h2 : Int.gcd N D = 1) (e : N * d = n * D) : redN n d = N ∧ redD n d = D := by
  obtain ⟨g, a1, a2, a3, a4⟩ := red_spec (n := n) h
  refine cop_unique h1 h2 a3 a4 ?_
  refine Int.eq_of_mul_eq_mul_right g ?_
  calc N * redD n d * gs n d = N * (redD n d * gs n d) := Int.mul_assoc _ _ _
    _ = N * d := by rw [a2]
    _ = n * D := e
    _ = redN n d * gs n d * D := by rw [a1]
    _ = redN n d * D * gs n d := by rw [Int.mul_assoc, Int.mul_comm (gs n d), ← Int.mul_assoc]

theorem red_cross {n d : Int} (h : d ≠ 0) : redN n d * d = n * redD n d := by
  obtain ⟨g, a1, a2, a3, a4⟩ := red_spec (n := n) h
  calc redN n d * d = redN n d * (redD n d * gs n d) := by rw [a2]
    _ = redN n d * gs n d * redD n d := by rw [Int.mul_comm (redD n d), ← Int.mul_assoc]
    _ = n * redD n d := by rw [a1]

theorem red_eq {n d n' d' : Int} (h : d ≠ 0) (h' : d' ≠ 0) (e : n * d' = n' * d) : redN n d = redN n' d' ∧ redD n d = redD n' d' := by
  obtain ⟨g, a1, a2, a3, a4⟩ := red_spec (n := n') h'
  refine red_unique h a3 a4 ?_
  refine Int.eq_of_mul_eq_mul_right h' ?_
  have c := red_cross (n := n') h'
  calc redN n' d' * d * d' = redN n' d' * d' * d := by rw [Int.mul_assoc, Int.mul_comm d, ← Int.mul_assoc]
    _ = n' * redD n' d' * d := by rw [c]
    _ = n' * d * redD n' d' := by rw [Int.mul_assoc, Int.mul_comm (redD n' d'), ← Int.mul_assoc]
    _ = n * d' * redD n' d' := by rw [e]
    _ = n * redD n' d' * d' := by rw [Int.mul_assoc, Int.mul_comm d', ← Int.mul_assoc]

theorem red_valid {N D : Int} (h : Valid N D) : redN N D = N ∧ redD N D = D := by
  obtain ⟨h1, h2, h3, h4, h5⟩ := h
  exact red_unique (by omega) h1 h5 rfl

/-- The reduced fraction has both parts within the limits. -/
def Fits (n d : Int) : Prop := redD n d ≤ 2147483647 ∧ -2147483647 ≤ redN n d ∧ redN n d ≤ 2147483647
instance (n d : Int) : Decidable (Fits n d) := by unfold Fits; infer_instance
theorem fits_iff {n d : Int} (h : d ≠ 0) : Valid (redN n d) (redD n d) ↔ Fits n d := by
  obtain ⟨g, a1, a2, a3, a4⟩ := red_spec (n := n) h
  unfold Valid Fits
  constructor
  · intro k; exact ⟨k.2.1, k.2.2.1, k.2.2.2.1⟩
  · intro k; exact ⟨a3, k.1, k.2.1, k.2.2, a4⟩
end Go.Proofs.Ytaaoekddhgjckaa
