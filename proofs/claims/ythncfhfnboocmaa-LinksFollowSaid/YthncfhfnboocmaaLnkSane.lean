/- The examples of layer 13. -/
import Derived.Test.YthncfhfnboocmaaLnkSaneM
namespace Go.Proofs.Ythncfhfnboocmaa
open Go.ChangeShapes Go.WideShapes Go.ChangeAt Go.RowKit

theorem Row.lit (w : World) (cs : Array Value) (l : List Int) (n : Nat) (hn : l.length = n) (hcs : cs.toList = l.map (Value.int .i64)) : Row (w.alloc (.cells cs 3)) (some ⟨w.heap.size, 0, none⟩) w.heap.size 0 n l :=
  ⟨hn, fun _ => rfl, fun _ => by simp, fun i hi => by
    rw [cell_of_row _ w.heap.size _ cs 3 (0, 0) (heap_alloc_new w (.cells cs 3))]
    have : cs[0 + i]? = cs.toList[i]? := by rw [Nat.zero_add]; exact (Array.getElem?_toList).symm
    rw [this, hcs]
    simp [List.getD_eq_getElem?_getD, show i < l.length by omega]⟩
theorem wfs_of {l : List Jt} {n : Nat} (hn : l.length = n) (h : ∀ i : Fin l.length, wfJ (nthJ l i)) : ∀ i, i < n → wfJ (nthJ l i) := fun i hi => h ⟨i, by omega⟩
instance (x : Jt) : Decidable (wfJ x) := by unfold wfJ; infer_instance

set_option maxRecDepth 100000 in
set_option maxHeartbeats 8000000 in
theorem sane_any (w : World) :
    Calls Try.prog 10 #[] w fun e w' => e = .returned (.bool true) ∧ Below w.heap.size w w' := by
  go_enter Try.func10, Try.ntmps10
  have hB := Below.refl w.heap.size w
  have M := Js.lit w #[.int .i64 2, .int .i64 0, .int .i64 1, .int .i64 1, .int .i64 0] exA 1 rfl (fun i hi => by rcases (show i = 0 by omega) with rfl <;> exact ⟨rfl, rfl, rfl, rfl, rfl⟩)
  replace hB := hB.alloc hB.size (.cells #[.int .i64 2, .int .i64 0, .int .i64 1, .int .i64 1, .int .i64 0] 34)
  go_wp2_with fail
  refine (lkOrder 3 (some ⟨w.heap.size, 0, none⟩) w.heap.size 0 1 1 exA _ M (by omega) (wfs_of rfl (by decide))).mono ?_; rintro e w1 ⟨vR1, rfl, hO, hb⟩
  rw [orderA] at hO; rw [chkA]
  obtain ⟨aR1, bR1, qR1, rfl, R1, -, -⟩ := hO.row
  clear hO
  have F := M
  clear M
  replace F := F.grown hb
  replace hB := below_after hB hb hB.size
  clear hb
  obtain ⟨f0, hf0⟩ : ∃ f0, f0 = w.heap.size := ⟨_, rfl⟩
  have M := Js.lit w1 #[.int .i64 0, .int .i64 1, .int .i64 1, .int .i64 1, .int .i64 0, .int .i64 1, .int .i64 2, .int .i64 1, .int .i64 1, .int .i64 0] exB 2 rfl (fun i hi => by rcases (show i = 0 ∨ i = 1 by omega) with rfl | rfl <;> exact ⟨rfl, rfl, rfl, rfl, rfl⟩)
  replace F := F.grown ((Below.refl _ _).alloc (Nat.le_refl _) (.cells #[.int .i64 0, .int .i64 1, .int .i64 1, .int .i64 1, .int .i64 0, .int .i64 1, .int .i64 2, .int .i64 1, .int .i64 1, .int .i64 0] 34))
  replace R1 := R1.below ((Below.refl _ _).alloc (Nat.le_refl _) (.cells #[.int .i64 0, .int .i64 1, .int .i64 1, .int .i64 1, .int .i64 0, .int .i64 1, .int .i64 2, .int .i64 1, .int .i64 1, .int .i64 0] 34)) (Nat.le_refl _)
  replace hB := hB.alloc hB.size (.cells #[.int .i64 0, .int .i64 1, .int .i64 1, .int .i64 1, .int .i64 0, .int .i64 1, .int .i64 2, .int .i64 1, .int .i64 1, .int .i64 0] 34)
  go_wp2_with fail
  refine (lkOrder 3 (some ⟨w1.heap.size, 0, none⟩) w1.heap.size 0 2 2 exB _ M (by omega) (wfs_of rfl (by decide))).mono ?_; rintro e w2 ⟨vR2, rfl, hO, hb⟩
  rw [orderB] at hO; rw [chkB]
  obtain ⟨aR2, bR2, qR2, rfl, R2, -, -⟩ := hO.row
  clear hO
  clear M
  replace F := F.grown hb
  replace R1 := R1.below hb (Nat.le_refl _)
  replace hB := below_after hB hb hB.size
  clear hb
  have M := Js.lit w2 #[.int .i64 1, .int .i64 0, .int .i64 2, .int .i64 3, .int .i64 5] exC 1 rfl (fun i hi => by rcases (show i = 0 by omega) with rfl <;> exact ⟨rfl, rfl, rfl, rfl, rfl⟩)
  replace F := F.grown ((Below.refl _ _).alloc (Nat.le_refl _) (.cells #[.int .i64 1, .int .i64 0, .int .i64 2, .int .i64 3, .int .i64 5] 34))
  replace R1 := R1.below ((Below.refl _ _).alloc (Nat.le_refl _) (.cells #[.int .i64 1, .int .i64 0, .int .i64 2, .int .i64 3, .int .i64 5] 34)) (Nat.le_refl _)
  replace R2 := R2.below ((Below.refl _ _).alloc (Nat.le_refl _) (.cells #[.int .i64 1, .int .i64 0, .int .i64 2, .int .i64 3, .int .i64 5] 34)) (Nat.le_refl _)
  replace hB := hB.alloc hB.size (.cells #[.int .i64 1, .int .i64 0, .int .i64 2, .int .i64 3, .int .i64 5] 34)
  have V := Row.lit (w2.alloc (.cells #[.int .i64 1, .int .i64 0, .int .i64 2, .int .i64 3, .int .i64 5] 34)) #[.int .i64 0, .int .i64 (-7)] [0, -7] 2 rfl rfl
  replace F := F.grown ((Below.refl _ _).alloc (Nat.le_refl _) (.cells #[.int .i64 0, .int .i64 (-7)] 3))
  replace R1 := R1.below ((Below.refl _ _).alloc (Nat.le_refl _) (.cells #[.int .i64 0, .int .i64 (-7)] 3)) (Nat.le_refl _)
  replace R2 := R2.below ((Below.refl _ _).alloc (Nat.le_refl _) (.cells #[.int .i64 0, .int .i64 (-7)] 3)) (Nat.le_refl _)
  replace M := M.grown ((Below.refl _ _).alloc (Nat.le_refl _) (.cells #[.int .i64 0, .int .i64 (-7)] 3))
  replace hB := hB.alloc hB.size (.cells #[.int .i64 0, .int .i64 (-7)] 3)
  rw [World.size_alloc] at V
  go_wp2_with fail
  refine (lkValues (some ⟨w2.heap.size, 0, none⟩) (some ⟨w2.heap.size + 1, 0, none⟩) (w2.heap.size) 0 1 1 (w2.heap.size + 1) 0 2 2 exC [0, -7] _ M (by omega) (wfs_of rfl (by decide)) V (by omega)).mono ?_; rintro e w3 ⟨vR3, rfl, hO, hb⟩
  rw [valC] at hO; rw [show ((2 : Nat) : Int) = 2 from rfl, chkX]
  obtain ⟨aR3, bR3, qR3, rfl, R3, -, -⟩ := hO.row
  clear hO V M
  replace F := F.grown hb
  replace R1 := R1.below hb (Nat.le_refl _)
  replace R2 := R2.below hb (Nat.le_refl _)
  replace hB := below_after hB hb hB.size
  clear hb
  have V := Row.lit w3 #[.int .i64 9, .int .i64 1099511627776, .int .i64 (-1099511627776)] [9, 1099511627776, -1099511627776] 3 rfl rfl
  replace F := F.grown ((Below.refl _ _).alloc (Nat.le_refl _) (.cells #[.int .i64 9, .int .i64 1099511627776, .int .i64 (-1099511627776)] 3))
  replace R1 := R1.below ((Below.refl _ _).alloc (Nat.le_refl _) (.cells #[.int .i64 9, .int .i64 1099511627776, .int .i64 (-1099511627776)] 3)) (Nat.le_refl _)
  replace R2 := R2.below ((Below.refl _ _).alloc (Nat.le_refl _) (.cells #[.int .i64 9, .int .i64 1099511627776, .int .i64 (-1099511627776)] 3)) (Nat.le_refl _)
  replace R3 := R3.below ((Below.refl _ _).alloc (Nat.le_refl _) (.cells #[.int .i64 9, .int .i64 1099511627776, .int .i64 (-1099511627776)] 3)) (Nat.le_refl _)
  replace hB := hB.alloc hB.size (.cells #[.int .i64 9, .int .i64 1099511627776, .int .i64 (-1099511627776)] 3)
  go_wp2_with fail
  refine (lkValues (some ⟨w.heap.size, 0, none⟩) (some ⟨w3.heap.size, 0, none⟩) (w.heap.size) 0 1 1 (w3.heap.size) 0 3 3 exA [9, 1099511627776, -1099511627776] _ F (by omega) (wfs_of rfl (by decide)) V (by omega)).mono ?_; rintro e w4 ⟨vR4, rfl, hO, hb⟩
  rw [valA] at hO; rw [show ((3 : Nat) : Int) = 3 from rfl, chkA]
  obtain ⟨aR4, bR4, qR4, rfl, R4, -, -⟩ := hO.row
  clear hO V F
  replace R1 := R1.below hb (Nat.le_refl _)
  replace R2 := R2.below hb (Nat.le_refl _)
  replace R3 := R3.below hb (Nat.le_refl _)
  replace hB := below_after hB hb hB.size
  clear hb
  go_wp2_with fail
  refine (lkCheck (0) none 0 0 0 0 [] _ (Js.zero _ _) (by omega) (fun i hi => absurd hi (by omega))).mono ?_; rintro e w5 ⟨rfl, hb⟩; rw [chk0]
  replace R1 := R1.below hb (Nat.le_refl _)
  replace R2 := R2.below hb (Nat.le_refl _)
  replace R3 := R3.below hb (Nat.le_refl _)
  replace R4 := R4.below hb (Nat.le_refl _)
  replace hB := below_after hB hb hB.size
  clear hb
  go_wp2_with fail
  refine (lkCheck (257) none 0 0 0 0 [] _ (Js.zero _ _) (by omega) (fun i hi => absurd hi (by omega))).mono ?_; rintro e w6 ⟨rfl, hb⟩; rw [chkL_arg (by omega)]
  replace R1 := R1.below hb (Nat.le_refl _)
  replace R2 := R2.below hb (Nat.le_refl _)
  replace R3 := R3.below hb (Nat.le_refl _)
  replace R4 := R4.below hb (Nat.le_refl _)
  replace hB := below_after hB hb hB.size
  clear hb
  go_wp2_with fail
  refine (lkCheck (-1) none 0 0 0 0 [] _ (Js.zero _ _) (by omega) (fun i hi => absurd hi (by omega))).mono ?_; rintro e w7 ⟨rfl, hb⟩; rw [chkL_arg (by omega)]
  replace R1 := R1.below hb (Nat.le_refl _)
  replace R2 := R2.below hb (Nat.le_refl _)
  replace R3 := R3.below hb (Nat.le_refl _)
  replace R4 := R4.below hb (Nat.le_refl _)
  replace hB := below_after hB hb hB.size
  clear hb
  have M := Js.lit w7 #[.int .i64 0, .int .i64 1, .int .i64 1, .int .i64 1, .int .i64 0, .int .i64 1, .int .i64 0, .int .i64 1, .int .i64 1, .int .i64 0] exD 2 rfl (fun i hi => by rcases (show i = 0 ∨ i = 1 by omega) with rfl | rfl <;> exact ⟨rfl, rfl, rfl, rfl, rfl⟩)
  replace R1 := R1.below ((Below.refl _ _).alloc (Nat.le_refl _) (.cells #[.int .i64 0, .int .i64 1, .int .i64 1, .int .i64 1, .int .i64 0, .int .i64 1, .int .i64 0, .int .i64 1, .int .i64 1, .int .i64 0] 34)) (Nat.le_refl _)
  replace R2 := R2.below ((Below.refl _ _).alloc (Nat.le_refl _) (.cells #[.int .i64 0, .int .i64 1, .int .i64 1, .int .i64 1, .int .i64 0, .int .i64 1, .int .i64 0, .int .i64 1, .int .i64 1, .int .i64 0] 34)) (Nat.le_refl _)
  replace R3 := R3.below ((Below.refl _ _).alloc (Nat.le_refl _) (.cells #[.int .i64 0, .int .i64 1, .int .i64 1, .int .i64 1, .int .i64 0, .int .i64 1, .int .i64 0, .int .i64 1, .int .i64 1, .int .i64 0] 34)) (Nat.le_refl _)
  replace R4 := R4.below ((Below.refl _ _).alloc (Nat.le_refl _) (.cells #[.int .i64 0, .int .i64 1, .int .i64 1, .int .i64 1, .int .i64 0, .int .i64 1, .int .i64 0, .int .i64 1, .int .i64 1, .int .i64 0] 34)) (Nat.le_refl _)
  replace hB := hB.alloc hB.size (.cells #[.int .i64 0, .int .i64 1, .int .i64 1, .int .i64 1, .int .i64 0, .int .i64 1, .int .i64 0, .int .i64 1, .int .i64 1, .int .i64 0] 34)
  go_wp2_with fail
  refine (lkCheck 2 (some ⟨w7.heap.size, 0, none⟩) w7.heap.size 0 2 2 exD _ M (by omega) (wfs_of rfl (by decide))).mono ?_; rintro e w8 ⟨rfl, hb⟩; rw [chkD]
  clear M
  replace R1 := R1.below hb (Nat.le_refl _)
  replace R2 := R2.below hb (Nat.le_refl _)
  replace R3 := R3.below hb (Nat.le_refl _)
  replace R4 := R4.below hb (Nat.le_refl _)
  replace hB := below_after hB hb hB.size
  clear hb
  have M := Js.lit w8 #[.int .i64 0, .int .i64 1, .int .i64 0, .int .i64 1, .int .i64 0, .int .i64 2, .int .i64 1, .int .i64 0, .int .i64 1, .int .i64 0] exE 2 rfl (fun i hi => by rcases (show i = 0 ∨ i = 1 by omega) with rfl | rfl <;> exact ⟨rfl, rfl, rfl, rfl, rfl⟩)
  replace R1 := R1.below ((Below.refl _ _).alloc (Nat.le_refl _) (.cells #[.int .i64 0, .int .i64 1, .int .i64 0, .int .i64 1, .int .i64 0, .int .i64 2, .int .i64 1, .int .i64 0, .int .i64 1, .int .i64 0] 34)) (Nat.le_refl _)
  replace R2 := R2.below ((Below.refl _ _).alloc (Nat.le_refl _) (.cells #[.int .i64 0, .int .i64 1, .int .i64 0, .int .i64 1, .int .i64 0, .int .i64 2, .int .i64 1, .int .i64 0, .int .i64 1, .int .i64 0] 34)) (Nat.le_refl _)
  replace R3 := R3.below ((Below.refl _ _).alloc (Nat.le_refl _) (.cells #[.int .i64 0, .int .i64 1, .int .i64 0, .int .i64 1, .int .i64 0, .int .i64 2, .int .i64 1, .int .i64 0, .int .i64 1, .int .i64 0] 34)) (Nat.le_refl _)
  replace R4 := R4.below ((Below.refl _ _).alloc (Nat.le_refl _) (.cells #[.int .i64 0, .int .i64 1, .int .i64 0, .int .i64 1, .int .i64 0, .int .i64 2, .int .i64 1, .int .i64 0, .int .i64 1, .int .i64 0] 34)) (Nat.le_refl _)
  replace hB := hB.alloc hB.size (.cells #[.int .i64 0, .int .i64 1, .int .i64 0, .int .i64 1, .int .i64 0, .int .i64 2, .int .i64 1, .int .i64 0, .int .i64 1, .int .i64 0] 34)
  go_wp2_with fail
  refine (lkCheck 3 (some ⟨w8.heap.size, 0, none⟩) w8.heap.size 0 2 2 exE _ M (by omega) (wfs_of rfl (by decide))).mono ?_; rintro e w9 ⟨rfl, hb⟩; rw [chkE]
  clear M
  replace R1 := R1.below hb (Nat.le_refl _)
  replace R2 := R2.below hb (Nat.le_refl _)
  replace R3 := R3.below hb (Nat.le_refl _)
  replace R4 := R4.below hb (Nat.le_refl _)
  replace hB := below_after hB hb hB.size
  clear hb
  have M := Js.lit w9 #[.int .i64 0, .int .i64 0, .int .i64 0, .int .i64 1, .int .i64 0] exF 1 rfl (fun i hi => by rcases (show i = 0 by omega) with rfl <;> exact ⟨rfl, rfl, rfl, rfl, rfl⟩)
  replace R1 := R1.below ((Below.refl _ _).alloc (Nat.le_refl _) (.cells #[.int .i64 0, .int .i64 0, .int .i64 0, .int .i64 1, .int .i64 0] 34)) (Nat.le_refl _)
  replace R2 := R2.below ((Below.refl _ _).alloc (Nat.le_refl _) (.cells #[.int .i64 0, .int .i64 0, .int .i64 0, .int .i64 1, .int .i64 0] 34)) (Nat.le_refl _)
  replace R3 := R3.below ((Below.refl _ _).alloc (Nat.le_refl _) (.cells #[.int .i64 0, .int .i64 0, .int .i64 0, .int .i64 1, .int .i64 0] 34)) (Nat.le_refl _)
  replace R4 := R4.below ((Below.refl _ _).alloc (Nat.le_refl _) (.cells #[.int .i64 0, .int .i64 0, .int .i64 0, .int .i64 1, .int .i64 0] 34)) (Nat.le_refl _)
  replace hB := hB.alloc hB.size (.cells #[.int .i64 0, .int .i64 0, .int .i64 0, .int .i64 1, .int .i64 0] 34)
  go_wp2_with fail
  refine (lkCheck 1 (some ⟨w9.heap.size, 0, none⟩) w9.heap.size 0 1 1 exF _ M (by omega) (wfs_of rfl (by decide))).mono ?_; rintro e w10 ⟨rfl, hb⟩; rw [chkF]
  clear M
  replace R1 := R1.below hb (Nat.le_refl _)
  replace R2 := R2.below hb (Nat.le_refl _)
  replace R3 := R3.below hb (Nat.le_refl _)
  replace R4 := R4.below hb (Nat.le_refl _)
  replace hB := below_after hB hb hB.size
  clear hb
  have RL := Row.lit w10 #[.int .i64 1, .int .i64 2, .int .i64 0] [1, 2, 0] 3 rfl rfl
  replace R1 := R1.below ((Below.refl _ _).alloc (Nat.le_refl _) (.cells #[.int .i64 1, .int .i64 2, .int .i64 0] 3)) (Nat.le_refl _)
  replace R2 := R2.below ((Below.refl _ _).alloc (Nat.le_refl _) (.cells #[.int .i64 1, .int .i64 2, .int .i64 0] 3)) (Nat.le_refl _)
  replace R3 := R3.below ((Below.refl _ _).alloc (Nat.le_refl _) (.cells #[.int .i64 1, .int .i64 2, .int .i64 0] 3)) (Nat.le_refl _)
  replace R4 := R4.below ((Below.refl _ _).alloc (Nat.le_refl _) (.cells #[.int .i64 1, .int .i64 2, .int .i64 0] 3)) (Nat.le_refl _)
  replace hB := hB.alloc hB.size (.cells #[.int .i64 1, .int .i64 2, .int .i64 0] 3)
  go_wp2_with fail
  refine (same_any _ _ _ _ _ _ _ 3 _ _ _ [1, 2, 0] _ R1 RL (by simp) rfl).mono ?_; rintro e w11 ⟨rfl, hb⟩
  clear RL R1
  replace R2 := R2.below hb (Nat.le_refl _)
  replace R3 := R3.below hb (Nat.le_refl _)
  replace R4 := R4.below hb (Nat.le_refl _)
  replace hB := below_after hB hb hB.size
  clear hb
  have RL := Row.lit w11 #[.int .i64 0, .int .i64 1, .int .i64 2] [0, 1, 2] 3 rfl rfl
  replace R2 := R2.below ((Below.refl _ _).alloc (Nat.le_refl _) (.cells #[.int .i64 0, .int .i64 1, .int .i64 2] 3)) (Nat.le_refl _)
  replace R3 := R3.below ((Below.refl _ _).alloc (Nat.le_refl _) (.cells #[.int .i64 0, .int .i64 1, .int .i64 2] 3)) (Nat.le_refl _)
  replace R4 := R4.below ((Below.refl _ _).alloc (Nat.le_refl _) (.cells #[.int .i64 0, .int .i64 1, .int .i64 2] 3)) (Nat.le_refl _)
  replace hB := hB.alloc hB.size (.cells #[.int .i64 0, .int .i64 1, .int .i64 2] 3)
  go_wp2_with fail
  refine (same_any _ _ _ _ _ _ _ 3 _ _ _ [0, 1, 2] _ R2 RL (by simp) rfl).mono ?_; rintro e w12 ⟨rfl, hb⟩
  clear RL R2
  replace R3 := R3.below hb (Nat.le_refl _)
  replace R4 := R4.below hb (Nat.le_refl _)
  replace hB := below_after hB hb hB.size
  clear hb
  have RL := Row.lit w12 #[.int .i64 0, .int .i64 (-7)] [0, -7] 2 rfl rfl
  replace R3 := R3.below ((Below.refl _ _).alloc (Nat.le_refl _) (.cells #[.int .i64 0, .int .i64 (-7)] 3)) (Nat.le_refl _)
  replace R4 := R4.below ((Below.refl _ _).alloc (Nat.le_refl _) (.cells #[.int .i64 0, .int .i64 (-7)] 3)) (Nat.le_refl _)
  replace hB := hB.alloc hB.size (.cells #[.int .i64 0, .int .i64 (-7)] 3)
  go_wp2_with fail
  refine (same_any _ _ _ _ _ _ _ 2 _ _ _ [0, -7] _ R3 RL (by simp) rfl).mono ?_; rintro e w13 ⟨rfl, hb⟩
  clear RL R3
  replace R4 := R4.below hb (Nat.le_refl _)
  replace hB := below_after hB hb hB.size
  clear hb
  have RL := Row.lit w13 #[.int .i64 (-2147483648), .int .i64 2147483647, .int .i64 (-2147483648)] [-2147483648, 2147483647, -2147483648] 3 rfl rfl
  replace R4 := R4.below ((Below.refl _ _).alloc (Nat.le_refl _) (.cells #[.int .i64 (-2147483648), .int .i64 2147483647, .int .i64 (-2147483648)] 3)) (Nat.le_refl _)
  replace hB := hB.alloc hB.size (.cells #[.int .i64 (-2147483648), .int .i64 2147483647, .int .i64 (-2147483648)] 3)
  go_wp2_with fail
  refine (same_any _ _ _ _ _ _ _ 3 _ _ _ [-2147483648, 2147483647, -2147483648] _ R4 RL (by simp) rfl).mono ?_; rintro e w14 ⟨rfl, hb⟩
  clear RL R4
  replace hB := below_after hB hb hB.size
  clear hb
  go_wp2
  go_ret
  exact ⟨rfl, hB⟩
end Go.Proofs.Ythncfhfnboocmaa
