/- The reference's checks of curves (layer 11). -/
import Derived.Test.YtmblkmllamccnaaCrvCheck
namespace Go.Proofs.Ytmblkmllamccnaa
open Go.ChangeShapes Go.WideShapes Go.ChangeAt Go.RowKit

def encKv2 (m : Kt) : Value := .agg #[.int .i64 m.1, .int .i64 m.2.1, .int .i64 m.2.2.1, .int .i64 m.2.2.2.1, .int .i64 m.2.2.2.2]
noncomputable def okKB (most : Int) (m : Kt) : Bool := by classical exact decide (okK most m)
theorem okKB_t {most : Int} {m : Kt} (h : okK most m) : okKB most m = true := by unfold okKB; simpa using h
theorem okKB_f {most : Int} {m : Kt} (h : ¬ okK most m) : okKB most m = false := by unfold okKB; simpa using h

set_option maxHeartbeats 4000000 in
theorem rknot_any (m : Kt) (most : Int) (w : World) :
    Calls Try.prog 50 #[encKv2 m, .int .i64 most] w fun e w' => e = .returned (.bool (okKB most m)) ∧ Below w.heap.size w w' := by
  obtain ⟨tA, V, S, A, B⟩ := m
  unfold encKv2
  dsimp only
  by_cases q1 : tA < 0
  · have e := okKB_f (most := most) (m := (tA, V, S, A, B)) fun h => by have := h.1; dsimp only at this; omega
    rw [e]
    clear e
    go_enter Try.func50, Try.ntmps50
    go_wp2
    go_ret
    exact ⟨rfl, by go_grown⟩
  by_cases q2 : most < tA
  · have e := okKB_f (most := most) (m := (tA, V, S, A, B)) fun h => by have := h.2.1; dsimp only at this; omega
    rw [e]
    clear e
    go_enter Try.func50, Try.ntmps50
    go_wp2
    go_ret
    exact ⟨rfl, by go_grown⟩
  by_cases q3 : V < -2147483648
  · have e := okKB_f (most := most) (m := (tA, V, S, A, B)) fun h => by have := h.2.2.1; dsimp only at this; omega
    rw [e]
    clear e
    go_enter Try.func50, Try.ntmps50
    go_wp2
    go_ret
    exact ⟨rfl, by go_grown⟩
  by_cases q4 : 2147483647 < V
  · have e := okKB_f (most := most) (m := (tA, V, S, A, B)) fun h => by have := h.2.2.2.1; dsimp only at this; omega
    rw [e]
    clear e
    go_enter Try.func50, Try.ntmps50
    go_wp2
    go_ret
    exact ⟨rfl, by go_grown⟩
  by_cases q5 : S = 3
  · subst q5
    by_cases q6 : 1 ≤ A ∧ A ≤ 16 ∧ 1 ≤ B ∧ B ≤ 16
    · have e := okKB_t (most := most) (m := (tA, V, 3, A, B)) ⟨Int.not_lt.1 q1, Int.not_lt.1 q2, Int.not_lt.1 q3, Int.not_lt.1 q4, show (1 : Int) ≤ 3 by decide, show (3 : Int) ≤ 3 by decide, fun _ => q6, fun h => absurd rfl h⟩
      rw [e]
      obtain ⟨p1, p2, p3, p4⟩ := q6
      have z4 : decide (B ≤ 16) = true := decide_eq_true p4
      clear e
      go_enter Try.func50, Try.ntmps50
      go_wp2
      go_ret
      exact ⟨rfl, by go_grown⟩
    · have e := okKB_f (most := most) (m := (tA, V, 3, A, B)) fun h => q6 (h.2.2.2.2.2.2.1 rfl)
      rw [e]
      clear e
      by_cases p1 : 1 ≤ A
      case neg =>
        clear q6
        go_enter Try.func50, Try.ntmps50
        go_wp2
        go_ret
        exact ⟨rfl, by go_grown⟩
      by_cases p2 : A ≤ 16
      case neg =>
        clear q6
        go_enter Try.func50, Try.ntmps50
        go_wp2
        go_ret
        exact ⟨rfl, by go_grown⟩
      by_cases p3 : 1 ≤ B
      case neg =>
        clear q6
        go_enter Try.func50, Try.ntmps50
        go_wp2
        go_ret
        exact ⟨rfl, by go_grown⟩
      have p4 : ¬ B ≤ 16 := fun h => q6 ⟨p1, p2, p3, h⟩
      have z4 : decide (B ≤ 16) = false := decide_eq_false p4
      clear q6
      go_enter Try.func50, Try.ntmps50
      go_wp2
      go_ret
      exact ⟨rfl, by go_grown⟩
  have z5 : (S == 3) = false := by simp [q5]
  by_cases q7 : 1 ≤ S ∧ S ≤ 3
  case neg =>
    have e := okKB_f (most := most) (m := (tA, V, S, A, B)) fun h => q7 ⟨h.2.2.2.2.1, h.2.2.2.2.2.1⟩
    rw [e]
    have z1 : (S == 1) = false := by simp; omega
    have z2 : (S == 2) = false := by simp; omega
    clear e q7 q5
    go_enter Try.func50, Try.ntmps50
    go_wp2
    go_ret
    exact ⟨rfl, by go_grown⟩
  have hS : S = 1 ∨ S = 2 := by omega
  by_cases q8 : A = 0
  case neg =>
    have e := okKB_f (most := most) (m := (tA, V, S, A, B)) fun h => q8 (h.2.2.2.2.2.2.2 q5).1
    rw [e]
    have z8 : (A == 0) = false := by simp [q8]
    clear e q7 q5 q8
    rcases hS with rfl | rfl
    all_goals
      go_enter Try.func50, Try.ntmps50
      go_wp2
      go_ret
      exact ⟨rfl, by go_grown⟩
  subst q8
  by_cases q9 : B = 0
  · subst q9
    have e := okKB_t (most := most) (m := (tA, V, S, 0, 0)) ⟨Int.not_lt.1 q1, Int.not_lt.1 q2, Int.not_lt.1 q3, Int.not_lt.1 q4, q7.1, q7.2, fun h => absurd h q5, fun _ => ⟨rfl, rfl⟩⟩
    rw [e]
    clear e q7 q5
    rcases hS with rfl | rfl
    all_goals
      go_enter Try.func50, Try.ntmps50
      go_wp2
      go_ret
      exact ⟨rfl, by go_grown⟩
  · have e := okKB_f (most := most) (m := (tA, V, S, 0, B)) fun h => q9 (h.2.2.2.2.2.2.2 q5).2
    rw [e]
    have z9 : (B == 0) = false := by simp [q9]
    clear e q7 q5 q9
    rcases hS with rfl | rfl
    all_goals
      go_enter Try.func50, Try.ntmps50
      go_wp2
      go_ret
      exact ⟨rfl, by go_grown⟩
end Go.Proofs.Ytmblkmllamccnaa
