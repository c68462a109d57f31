/- The examples of layer 26. -/
import Derived.Test.YtipjogicjgkgjaaSpRef
namespace Go.Proofs.Ytipjogicjgkgjaa
open Go.ChangeShapes Go.WideShapes Go.ChangeAt Go.RowKit

theorem Row.lit (w : World) (cs : Array Value) (l : List Int) (n : Nat) (hn : l.length = n) (hcs : cs.toList = l.map (Value.int .i64)) : Row (w.alloc (.cells cs 3)) (some ⟨w.heap.size, 0, none⟩) w.heap.size 0 n l :=
  ⟨hn, fun _ => rfl, fun _ => by simp, fun i hi => by
    have h1 := cell_of_row _ w.heap.size i cs 3 (0, 0) (heap_alloc_new w (.cells cs 3))
    rw [Nat.zero_add, h1, ← Array.getElem?_toList, hcs]
    simp [List.getD_eq_getElem?_getD, hn, hi]⟩
theorem Row.nil (w : World) : Row w none 0 0 0 [] := ⟨rfl, fun h => by omega, fun h => by omega, fun i hi => by omega⟩

theorem l1 : lenR 5 2 3 = 7 ∧ lenE 5 2 3 = 0 := by decide +kernel
theorem l2 : lenR 0 1 2 = 0 ∧ lenE 0 1 2 = 0 := by decide +kernel
theorem l3 : lenR 1 64 1 = 1 ∧ lenE 1 64 1 = 0 := by decide +kernel
theorem l4 : lenR 5 2 4 = 0 ∧ lenE 5 2 4 = 1 := by decide +kernel
theorem k1 : convL [0, 10, 5] 1 2 5 = [0, 5, 10, 7, 5] := by decide +kernel
theorem k2 : convL [1, 2, 3, 4, 5] 2 1 3 = [1, 3, 5] := by decide +kernel
theorem k3 : smpI [0, 10, 5] 1 2 3 = 7 := by decide +kernel
theorem s12 : Spd 1 2 := by decide +kernel
theorem s21 : Spd 2 1 := by decide +kernel
theorem n1 : ¬ ErrAt 2 1 1 2 := by decide +kernel
theorem m1 : lenV ((3 : Nat) : Int) 1 2 = ((5 : Nat) : Int) := by decide +kernel
theorem m2 : lenV ((5 : Nat) : Int) 2 1 = ((3 : Nat) : Int) := by decide +kernel

theorem few_any (a : Option Addr) (n cap : Nat) (w : World) :
    Calls Try.prog 10 #[.slice a n cap] w fun e w' => e = .returned (.bool (decide ((n : Int) ≤ 60))) ∧ w' = w := by
  go_enter Try.func10, Try.ntmps10
  go_wp2
  go_ret
  exact ⟨rfl, rfl⟩

set_option maxRecDepth 100000 in
set_option maxHeartbeats 4000000 in
theorem sane_any (w : World) :
    Calls Try.prog 9 #[] w fun e w' => e = .returned (.bool true) ∧ Below w.heap.size w w' := by
  go_enter Try.func9, Try.ntmps9
  go_wp2_with fail
  refine (len_any _ _ _ _).mono ?_; rintro e w' ⟨rfl, rfl⟩; rw [l1.1, l1.2]
  go_wp2_with fail
  refine (len_any _ _ _ _).mono ?_; rintro e w' ⟨rfl, rfl⟩; rw [l2.1, l2.2]
  go_wp2_with fail
  refine (len_any _ _ _ _).mono ?_; rintro e w' ⟨rfl, rfl⟩; rw [l3.1, l3.2]
  go_wp2_with fail
  refine (len_any _ _ _ _).mono ?_; rintro e w' ⟨rfl, rfl⟩; rw [l4.1, l4.2]
  have hB := Below.refl w.heap.size w
  go_wp2_with fail
  refine (convert_ok _ _ _ 3 _ 5 [0, 10, 5] 1 2 _ (Row.lit w _ _ _ (by rfl) (by rfl)) (by omega) s12 m1 (by omega)).mono ?_; rintro e w1 ⟨v2, rfl, hO2, hb⟩
  rw [k1] at hO2
  obtain ⟨a2, b2, c2, rfl, R2, -, -⟩ := hO2.row
  replace hB := below_after (hB.alloc hB.size _) hb (by have := hB.size; simp <;> omega)
  clear hb hO2
  go_wp2_with fail
  refine (convert_ok _ _ _ 5 _ 3 [1, 2, 3, 4, 5] 2 1 _ (Row.lit w1 _ _ _ (by rfl) (by rfl)) (by omega) s21 m2 (by omega)).mono ?_; rintro e w3 ⟨v3, rfl, hO3, hb⟩
  rw [k2] at hO3
  obtain ⟨a3, b3, c3, rfl, R3, -, -⟩ := hO3.row
  replace R2 := (R2.below ((Below.refl _ _).alloc (Nat.le_refl _) _) (Nat.le_refl _)).below hb (Nat.le_refl _)
  replace hB := below_after (hB.alloc hB.size _) hb (by have := hB.size; simp <;> omega)
  clear hb hO3
  go_wp2_with fail
  refine (at_no _ 2 _ 1 1 2 _ (by omega) n1).mono ?_; rintro e w' ⟨rfl, rfl⟩
  replace R2 := R2.below ((Below.refl _ _).alloc (Nat.le_refl _) (.cells #[.int .i64 1, .int .i64 2] 3)) (Nat.le_refl _)
  replace R3 := R3.below ((Below.refl _ _).alloc (Nat.le_refl _) (.cells #[.int .i64 1, .int .i64 2] 3)) (Nat.le_refl _)
  replace hB := hB.alloc hB.size (.cells #[.int .i64 1, .int .i64 2] 3)
  generalize w3.alloc (.cells #[.int .i64 1, .int .i64 2] 3) = w4 at *
  go_wp2_with fail
  refine (at_ok _ _ _ 3 _ [0, 10, 5] 1 2 3 _ (Row.lit w4 _ _ _ (by rfl) (by rfl)) (by omega) s12 (by omega) (by decide +kernel)).mono ?_; rintro e w5 ⟨rfl, hb⟩
  rw [show smpI [0, 10, 5] 1 2 (Int.toNat 3) = 7 from k3]
  replace R2 := (R2.below ((Below.refl _ _).alloc (Nat.le_refl _) _) (Nat.le_refl _)).below hb (Nat.le_refl _)
  replace R3 := (R3.below ((Below.refl _ _).alloc (Nat.le_refl _) _) (Nat.le_refl _)).below hb (Nat.le_refl _)
  replace hB := below_after (hB.alloc hB.size _) hb (by have := hB.size; simp <;> omega)
  clear hb
  go_wp2_with fail
  refine (same_any _ _ _ _ _ _ _ 5 _ _ _ [0, 5, 10, 7, 5] _ (R2.below ((Below.refl _ _).alloc (Nat.le_refl _) _) (Nat.le_refl _)) (Row.lit w5 _ _ _ (by rfl) (by rfl)) (by simp) (by omega) rfl).mono ?_; rintro e w7 ⟨rfl, hb⟩
  replace R3 := (R3.below ((Below.refl _ _).alloc (Nat.le_refl _) _) (Nat.le_refl _)).below hb (Nat.le_refl _)
  replace hB := below_after (hB.alloc hB.size _) hb (by have := hB.size; simp <;> omega)
  clear hb R2
  go_wp2_with fail
  refine (same_any _ _ _ _ _ _ _ 3 _ _ _ [1, 3, 5] _ (R3.below ((Below.refl _ _).alloc (Nat.le_refl _) _) (Nat.le_refl _)) (Row.lit w7 _ _ _ (by rfl) (by rfl)) (by simp) (by omega) rfl).mono ?_; rintro e w8 ⟨rfl, hb⟩
  replace hB := below_after (hB.alloc hB.size _) hb (by have := hB.size; simp <;> omega)
  clear hb R3
  go_wp2_with fail
  go_ret
  exact ⟨rfl, hB⟩
end Go.Proofs.Ytipjogicjgkgjaa
