/- The walk of SpeedLen (layer 26). -/
import Derived.Test.YtipjogicjgkgjaaSpSane
namespace Go.Proofs.Ytipjogicjgkgjaa
open Go.ChangeShapes Go.WideShapes Go.ChangeAt Go.RowKit

theorem lenV_pos {n a b : Int} (hn : 1 ≤ n) : lenV n a b = (n - 1) * b / a + 1 := by
  unfold lenV
  rw [if_neg (by omega)]
theorem lenV_mono {n a b : Int} (hn : 1 ≤ n) (a1 : 1 ≤ a) (b1 : 1 ≤ b) : lenV (n - 1) a b ≤ lenV n a b := by
  rw [lenV_pos hn]
  have h0 : 0 ≤ (n - 1) * b / a := Int.ediv_nonneg (Int.mul_nonneg (by omega) (by omega)) (by omega)
  by_cases h : n - 1 = 0
  · unfold lenV
    rw [if_pos h]
    omega
  · rw [lenV_pos (by omega)]
    have h1 : (n - 1 - 1) * b ≤ (n - 1) * b := Int.mul_le_mul_of_nonneg_right (by omega) (by omega)
    have h2 := Int.ediv_le_ediv (show 0 < a by omega) h1
    omega
theorem lenV_facts {n a b : Int} (hn : 1 ≤ n) (hn2 : n ≤ 16777216) (a1 : 1 ≤ a) (a2 : a ≤ 64) (b1 : 1 ≤ b) (b2 : b ≤ 64) :
    1 ≤ lenV n a b ∧ lenV n a b ≤ n * 64 ∧ (lenV n a b - 1) * a ≤ (n - 1) * b ∧ (n - 1) * b < lenV n a b * a ∧ 0 ≤ (n - 1) * b ∧ (n - 1) * b ≤ 1073741824 ∧ 0 ≤ (lenV n a b - 1) * a ∧ lenV n a b * a ≤ 1073741824 * 64 := by
  have p0 : 0 ≤ (n - 1) * b := Int.mul_nonneg (by omega) (by omega)
  have p1 : (n - 1) * b ≤ (n - 1) * 64 := Int.mul_le_mul_of_nonneg_left b2 (by omega)
  have q0 : 0 ≤ (n - 1) * b / a := Int.ediv_nonneg p0 (by omega)
  have q1 : (n - 1) * b / a ≤ (n - 1) * b := Int.ediv_le_self _ p0
  have q2 : (n - 1) * b / a * a ≤ (n - 1) * b := Int.ediv_mul_le _ (by omega)
  have q3 : (n - 1) * b < ((n - 1) * b / a + 1) * a := Int.lt_ediv_add_one_mul_self _ (by omega)
  have q4 : 0 ≤ (n - 1) * b / a * a := Int.mul_nonneg q0 (by omega)
  have q5 : ((n - 1) * b / a + 1) * a ≤ 1073741824 * 64 := Int.mul_le_mul (by omega) a2 (by omega) (by omega)
  rw [lenV_pos hn, Int.add_sub_cancel]
  exact ⟨by omega, by omega, q2, q3, p0, by omega, q4, q5⟩

theorem lenR_ok {n a b : Int} (h : LOk n a b) : lenR n a b = lenV n a b ∧ lenE n a b = 0 := by
  unfold lenR lenE; rw [if_pos h, if_pos h]; exact ⟨rfl, rfl⟩
theorem lenR_no {n a b : Int} (h : ¬ LOk n a b) : lenR n a b = 0 ∧ lenE n a b = 1 := by
  unfold lenR lenE; rw [if_neg h, if_neg h]; exact ⟨rfl, rfl⟩

set_option maxHeartbeats 4000000 in
theorem speedLen_walk (n a b : Int) (w : World) (n1 : -9223372036854775808 ≤ n) (n2 : n ≤ 9223372036854775807) :
    Calls Try.prog 5 #[.int .i64 n, .int .i64 a, .int .i64 b] w fun e w' => e = .returned (.bool true) ∧ Below w.heap.size w w' := by
  by_cases h : LOk n a b
  · have e1 := lenR_ok h
    by_cases h0 : n = 0
    · subst h0
      have e0 : lenV 0 a b = 0 := rfl
      rw [e0] at e1
      clear h e0
      go_enter Try.func5, Try.ntmps5
      go_wp2_with fail
      refine (sane_any _).mono ?_; rintro e w1 ⟨rfl, hb⟩
      go_wp2_with fail
      refine (len_any _ _ _ _).mono ?_; rintro e w' ⟨rfl, rfl⟩; rw [e1.1, e1.2]
      go_wp2
      go_ret
      exact ⟨rfl, hb⟩
    · have hk : LOk (n - 1) a b := ⟨h.1, by have := h.2; omega⟩
      have e2 := lenR_ok hk
      obtain ⟨⟨⟨a1, a2⟩, ⟨b1, b2⟩, hg⟩, n3, n4⟩ := h
      obtain ⟨f1, f2, f3, f4, f5, f6, f7, f8⟩ := lenV_facts (show 1 ≤ n by omega) n4 a1 a2 b1 b2
      have f9 := lenV_mono (show 1 ≤ n by omega) a1 b1
      clear hg hk
      generalize lenV n a b = m at *
      generalize lenV (n - 1) a b = m' at *
      have z0 : (n == 0) = false := by simpa using h0
      have z1 : IntKind.i64.wrap (n - 1) = n - 1 := by rw [IntKind.wrap_i64]; omega
      have z2 : IntKind.i64.wrap (m - 1) = m - 1 := by rw [IntKind.wrap_i64]; omega
      have z3 : IntKind.i64.wrap (n * 64) = n * 64 := by rw [IntKind.wrap_i64]; omega
      have g1 : (m - 1) * a ≤ m * a := Int.mul_le_mul_of_nonneg_right (by omega) (by omega)
      have z4 : IntKind.i64.wrap ((m - 1) * a) = (m - 1) * a := by rw [IntKind.wrap_i64]; omega
      have z5 : IntKind.i64.wrap ((n - 1) * b) = (n - 1) * b := by rw [IntKind.wrap_i64]; omega
      have z6 : IntKind.i64.wrap (m * a) = m * a := by rw [IntKind.wrap_i64]; omega
      clear h0
      go_enter Try.func5, Try.ntmps5
      go_wp2_with fail
      refine (sane_any _).mono ?_; rintro e w1 ⟨rfl, hb⟩
      go_wp2_with fail
      refine (len_any _ _ _ _).mono ?_; rintro e w' ⟨rfl, rfl⟩; rw [e1.1, e1.2]
      go_wp2_with fail
      refine (len_any _ _ _ _).mono ?_; rintro e w' ⟨rfl, rfl⟩; rw [e2.1, e2.2]
      go_wp2
      go_ret
      exact ⟨by simp, hb⟩
  · have e1 := lenR_no h
    clear h
    go_enter Try.func5, Try.ntmps5
    go_wp2_with fail
    refine (sane_any _).mono ?_; rintro e w1 ⟨rfl, hb⟩
    go_wp2_with fail
    refine (len_any _ _ _ _).mono ?_; rintro e w' ⟨rfl, rfl⟩; rw [e1.1, e1.2]
    go_wp2
    go_ret
    exact ⟨rfl, hb⟩
end Go.Proofs.Ytipjogicjgkgjaa
