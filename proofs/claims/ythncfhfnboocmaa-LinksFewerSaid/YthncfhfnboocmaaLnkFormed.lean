/- The closure links.Check$1: is a link right (layer 13). -/
import Derived.Test.YthncfhfnboocmaaLnkSrc
import Derived.Test.YthncfhfnboocmaaWithin
namespace Go.Proofs.Ythncfhfnboocmaa
open Go.ChangeShapes Go.WideShapes Go.ChangeAt Go.RowKit

noncomputable def okB (n : Int) (x : Jt) : Bool := by classical exact if okJ n x then true else false
theorem okB_t {n : Int} {x : Jt} (h : okJ n x) : okB n x = true := by exact if_pos h
theorem okB_f {n : Int} {x : Jt} (h : ¬ okJ n x) : okB n x = false := by exact if_neg h
theorem okB_iff {n : Int} {x : Jt} : okB n x = true ↔ okJ n x := ⟨fun h => Classical.byContradiction fun g => absurd ((okB_f g).symm.trans h) Bool.false_ne_true, okB_t⟩

set_option maxRecDepth 100000 in
set_option maxHeartbeats 4000000 in
theorem formed_any (X : Nat) (n : Int) (x : Jt) (w : World) (hX : w.heap[X]? = some (.cells #[.int .i64 n] 3 (0, 0))) (h0 : 0 ≤ n) (h1 : n ≤ 256) :
    Calls Try.prog 21 #[vJ x, .pointer (some ⟨X, 0, none⟩)] w fun e w' => e = .returned (.bool (okB n x)) ∧ Below w.heap.size w w' := by
  obtain ⟨a, b, c, d, e⟩ := x
  have hB : Below w.heap.size w (w.alloc (.cells #[.int .i64 a, .int .i64 b, .int .i64 c, .int .i64 d, .int .i64 e] 34)) := (Below.refl _ _).alloc (Nat.le_refl _) _
  have c0 := cell_alloc_keep (blk_cell hX 0) (.cells #[.int .i64 a, .int .i64 b, .int .i64 c, .int .i64 d, .int .i64 e] 34)
  simp at c0
  have hXl : X < w.heap.size := (Array.getElem?_eq_some_iff.1 hX).1
  have um : IntKind.i64.wrap (n - 1) = n - 1 := wrap_id (by omega)
  have HB := Lib.hid hB
  clear hB hX
  unfold vJ
  dsimp only
  by_cases q0 : a ≠ b
  case neg =>
    have EB := Lib.hid (okB_f (n := n) (x := (a, b, c, d, e)) (fun g => q0 (by have := g.1; have := g.2; dsimp only [okJ] at *; omega)))
    obtain rfl : a = b := by omega
    clear q0
    go_enter Try.func21, Try.ntmps21
    go_wp2_with (go_at_call 20; refine (within_any _ _ _ _).mono ?_; rintro e' w' ⟨rfl, rfl⟩)
    go_ret
    exact ⟨by rw [EB.out]; rfl, HB.out⟩
  have v0 : (a != b) = true := by simpa using q0
  by_cases q1 : 0 ≤ a ∧ a ≤ n - 1
  case neg =>
    have EB := Lib.hid (okB_f (n := n) (x := (a, b, c, d, e)) (fun g => q1 (by have := g.1; have := g.2; dsimp only [okJ] at *; omega)))
    have v1 := within_f q1
    clear q1
    go_enter Try.func21, Try.ntmps21
    go_wp2_with (go_at_call 20; refine (within_any _ _ _ _).mono ?_; rintro e' w' ⟨rfl, rfl⟩)
    go_ret
    exact ⟨by rw [EB.out]; rfl, HB.out⟩
  have v1 := within_t q1
  by_cases q2 : 0 ≤ b ∧ b ≤ n - 1
  case neg =>
    have EB := Lib.hid (okB_f (n := n) (x := (a, b, c, d, e)) (fun g => q2 (by have := g.1; have := g.2; dsimp only [okJ] at *; omega)))
    have v2 := within_f q2
    clear q2
    go_enter Try.func21, Try.ntmps21
    go_wp2_with (go_at_call 20; refine (within_any _ _ _ _).mono ?_; rintro e' w' ⟨rfl, rfl⟩)
    go_ret
    exact ⟨by rw [EB.out]; rfl, HB.out⟩
  have v2 := within_t q2
  by_cases q3 : -2147483647 ≤ c ∧ c ≤ 2147483647
  case neg =>
    have EB := Lib.hid (okB_f (n := n) (x := (a, b, c, d, e)) (fun g => q3 (by have := g.1; have := g.2; dsimp only [okJ] at *; omega)))
    have v3 := within_f q3
    clear q3
    go_enter Try.func21, Try.ntmps21
    go_wp2_with (go_at_call 20; refine (within_any _ _ _ _).mono ?_; rintro e' w' ⟨rfl, rfl⟩)
    go_ret
    exact ⟨by rw [EB.out]; rfl, HB.out⟩
  have v3 := within_t q3
  by_cases q4 : 1 ≤ d ∧ d ≤ 2147483647
  case neg =>
    have EB := Lib.hid (okB_f (n := n) (x := (a, b, c, d, e)) (fun g => q4 (by have := g.1; have := g.2; dsimp only [okJ] at *; omega)))
    have v4 := within_f q4
    clear q4
    go_enter Try.func21, Try.ntmps21
    go_wp2_with (go_at_call 20; refine (within_any _ _ _ _).mono ?_; rintro e' w' ⟨rfl, rfl⟩)
    go_ret
    exact ⟨by rw [EB.out]; rfl, HB.out⟩
  have v4 := within_t q4
  by_cases q5 : -2147483648 ≤ e ∧ e ≤ 2147483647
  case neg =>
    have EB := Lib.hid (okB_f (n := n) (x := (a, b, c, d, e)) (fun g => q5 (by have := g.1; have := g.2; dsimp only [okJ] at *; omega)))
    have v5 := within_f q5
    clear q5
    go_enter Try.func21, Try.ntmps21
    go_wp2_with (go_at_call 20; refine (within_any _ _ _ _).mono ?_; rintro e' w' ⟨rfl, rfl⟩)
    go_ret
    exact ⟨by rw [EB.out]; rfl, HB.out⟩
  have v5 := within_t q5
  have EB := Lib.hid (okB_t (n := n) (x := (a, b, c, d, e)) ⟨q0, ⟨by dsimp only; omega, by dsimp only; omega⟩, ⟨by dsimp only; omega, by dsimp only; omega⟩, q3, q4, q5⟩)
  clear q1 q2 q3 q4 q5
  go_enter Try.func21, Try.ntmps21
  go_wp2_with (go_at_call 20; refine (within_any _ _ _ _).mono ?_; rintro e' w' ⟨rfl, rfl⟩)
  go_ret
  exact ⟨by rw [EB.out]; rfl, HB.out⟩
end Go.Proofs.Ythncfhfnboocmaa
