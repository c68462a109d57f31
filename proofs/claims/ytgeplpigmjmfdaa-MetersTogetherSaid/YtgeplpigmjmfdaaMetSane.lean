/- The examples of layer 52. -/
import Derived.Test.YtgeplpigmjmfdaaMetWindows
namespace Go.Proofs.Ytgeplpigmjmfdaa
open Go.ChangeShapes Go.WideShapes Go.ChangeAt Go.RowKit

theorem Row.lit (w : World) (cs : Array Value) (l : List Int) (n : Nat) (hn : l.length = n) (hcs : cs.toList = l.map (Value.int .i64)) : Row (w.alloc (.cells cs 3)) (some ⟨w.heap.size, 0, none⟩) w.heap.size 0 n l :=
  ⟨hn, fun _ => rfl, fun _ => by simp, fun i hi => by
    have h1 := cell_of_row _ w.heap.size i cs 3 (0, 0) (heap_alloc_new w (.cells cs 3))
    rw [Nat.zero_add, h1, ← Array.getElem?_toList, hcs]
    simp [List.getD_eq_getElem?_getD, hn, hi]⟩
theorem Row.nil (w : World) : Row w none 0 0 0 [] := ⟨rfl, fun h => by omega, fun h => by omega, fun i hi => by omega⟩

theorem ve : enV [256, -256, 255, -1] 4 = 3 := by decide +kernel
theorem vw : winL [256, 0, 0, 512, 0] 2 3 (cnt 5 2 3) = [1, 4] := by decide +kernel
theorem vh : holdL [5, 0, 0, 1] 2 4 = [5, 3, 1, 1] := by decide +kernel
theorem vp1 : peakV [3, -5] 2 = 5 := by decide +kernel
theorem vp2 : peakV [-2147483648] 1 = 2147483648 := by decide +kernel

set_option maxHeartbeats 4000000 in
theorem sane_any (w : World) :
    Calls Try.prog 8 #[] w fun e w' => e = .returned (.bool true) ∧ Below w.heap.size w w' := by
  go_enter Try.func8, Try.ntmps8
  go_wp2_with fail
  refine (energy_ok _ _ _ 4 _ [256, -256, 255, -1] _ (Row.lit w _ _ _ (by rfl) (by rfl)) (by omega)).mono ?_; rintro e w' ⟨rfl, rfl⟩
  rw [ve]
  have hB := (Below.refl w.heap.size w).alloc (Nat.le_refl _) (.cells #[.int .i64 256, .int .i64 (-256), .int .i64 255, .int .i64 (-1)] 3)
  generalize w.alloc (.cells #[.int .i64 256, .int .i64 (-256), .int .i64 255, .int .i64 (-1)] 3) = w1 at *
  go_wp2_with fail
  refine (windows_ok _ _ _ 5 _ 2 3 [256, 0, 0, 512, 0] _ (Row.lit w1 _ _ _ (by rfl) (by rfl)) (by omega) (by omega) (by omega) (by omega) (by omega)).mono ?_; rintro e w2 ⟨v2, rfl, hO2, hb⟩
  rw [vw] at hO2
  replace hB := below_after (hB.alloc hB.size _) hb (by have := hB.size; simp; omega)
  obtain ⟨a2, b2, c2, rfl, R2, -, -⟩ := hO2.row
  clear hb hO2
  go_wp2_with fail
  refine (hold_ok _ _ _ 4 _ [5, 0, 0, 1] 2 _ (Row.lit w2 _ _ _ (by rfl) (by rfl)) (by omega) (by omega) (by omega)).mono ?_; rintro e w3 ⟨v3, rfl, hO3, hb⟩
  rw [vh] at hO3
  obtain ⟨a3, b3, c3, rfl, R3, -, -⟩ := hO3.row
  replace R2 := (R2.below ((Below.refl _ _).alloc (Nat.le_refl _) _) (Nat.le_refl _)).below hb (Nat.le_refl _)
  replace hB := below_after (hB.alloc hB.size _) hb (by have := hB.size; simp; omega)
  clear hb hO3
  go_wp2_with fail
  refine (windows_no _ _ _ 0 1 _ (by omega)).mono ?_; rintro e w4 ⟨rfl, hb⟩
  replace R2 := R2.below hb (Nat.le_refl _)
  replace R3 := R3.below hb (Nat.le_refl _)
  replace hB := below_after hB hb hB.size
  clear hb
  go_wp2_with fail
  refine (hold_no _ _ _ (-1) _ (by omega)).mono ?_; rintro e w' ⟨rfl, rfl⟩
  go_wp2_with fail
  refine (energy_ok _ 0 0 0 _ [] _ (Row.nil _) (by omega)).mono ?_; rintro e w' ⟨rfl, rfl⟩
  rw [show enV [] 0 = 0 from rfl]
  go_wp2_with fail
  refine (peak_any _ _ _ 2 _ [3, -5] _ (Row.lit w4 _ _ _ (by rfl) (by rfl)) (by omega)).mono ?_; rintro e w5 ⟨rfl, hb⟩
  rw [vp1]
  replace R2 := (R2.below ((Below.refl _ _).alloc (Nat.le_refl _) _) (Nat.le_refl _)).below hb (Nat.le_refl _)
  replace R3 := (R3.below ((Below.refl _ _).alloc (Nat.le_refl _) _) (Nat.le_refl _)).below hb (Nat.le_refl _)
  replace hB := below_after (hB.alloc hB.size _) hb (by have := hB.size; simp; omega)
  clear hb
  go_wp2_with fail
  refine (peak_any _ _ _ 1 _ [-2147483648] _ (Row.lit w5 _ _ _ (by rfl) (by rfl)) (by omega)).mono ?_; rintro e w6 ⟨rfl, hb⟩
  rw [vp2]
  replace R2 := (R2.below ((Below.refl _ _).alloc (Nat.le_refl _) _) (Nat.le_refl _)).below hb (Nat.le_refl _)
  replace R3 := (R3.below ((Below.refl _ _).alloc (Nat.le_refl _) _) (Nat.le_refl _)).below hb (Nat.le_refl _)
  replace hB := below_after (hB.alloc hB.size _) hb (by have := hB.size; simp; omega)
  clear hb
  go_wp2_with fail
  refine (same_any _ _ _ _ _ _ _ 2 _ _ _ [1, 4] _ (R2.below ((Below.refl _ _).alloc (Nat.le_refl _) _) (Nat.le_refl _)) (Row.lit w6 _ _ _ (by rfl) (by rfl)) (by simp) (by omega) rfl).mono ?_; rintro e w7 ⟨rfl, hb⟩
  replace R3 := (R3.below ((Below.refl _ _).alloc (Nat.le_refl _) _) (Nat.le_refl _)).below hb (Nat.le_refl _)
  replace hB := below_after (hB.alloc hB.size _) hb (by have := hB.size; simp; omega)
  clear hb R2
  go_wp2_with fail
  refine (same_any _ _ _ _ _ _ _ 4 _ _ _ [5, 3, 1, 1] _ (R3.below ((Below.refl _ _).alloc (Nat.le_refl _) _) (Nat.le_refl _)) (Row.lit w7 _ _ _ (by rfl) (by rfl)) (by simp) (by omega) rfl).mono ?_; rintro e w8 ⟨rfl, hb⟩
  replace hB := below_after (hB.alloc hB.size _) hb (by have := hB.size; simp; omega)
  clear hb R3
  go_wp2_with fail
  go_ret
  exact ⟨rfl, hB⟩
end Go.Proofs.Ytgeplpigmjmfdaa
