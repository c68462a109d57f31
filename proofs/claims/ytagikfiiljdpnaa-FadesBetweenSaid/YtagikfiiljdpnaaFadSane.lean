/- The examples of layer 27. -/
import Derived.Test.YtagikfiiljdpnaaFadRCr
namespace Go.Proofs.Ytagikfiiljdpnaa
open Go.ChangeShapes Go.WideShapes Go.ChangeAt Go.RowKit

theorem Row.lit (w : World) (cs : Array Value) (l : List Int) (n : Nat) (hn : l.length = n) (hcs : cs.toList = l.map (Value.int .i64)) : Row (w.alloc (.cells cs 3)) (some ⟨w.heap.size, 0, none⟩) w.heap.size 0 n l :=
  ⟨hn, fun _ => rfl, fun _ => by simp, fun i hi => by
    have h1 := cell_of_row _ w.heap.size i cs 3 (0, 0) (heap_alloc_new w (.cells cs 3))
    rw [Nat.zero_add, h1, ← Array.getElem?_toList, hcs]
    simp [List.getD_eq_getElem?_getD, hn, hi]⟩

theorem cross_ok (a b : Option Addr) (ab ao bb bo an bn ac bc M : Nat) (la lb : List Int) (w : World) (hRa : Row w a ab ao an la) (hRb : Row w b bb bo bn lb) (hM : M ≤ an) (hM2 : M ≤ bn) (hn : an + bn ≤ 1000000) (hac : an ≤ ac) (hbc : bn ≤ bc) (hna : a = none → ac = 0) (hnb : b = none → bc = 0) :
    Calls Try.prog 19 #[.slice a an ac, .slice b bn bc, .int .i64 M] w fun e w' => ∃ v, e = .returned (.tuple #[v, .int .i64 0]) ∧ Ints w' w.heap.size v (crossL la lb (an - M) M) ∧ Below w.heap.size w w' :=
  callsIn_wide.1 (cross_in a b ab ao bb bo an bn ac bc M la lb w hRa hRb hM hM2 hn hac hbc hna hnb)
theorem rcross_ok (a b : Option Addr) (ab ao bb bo an bn ac bc M : Nat) (la lb : List Int) (w : World) (hRa : Row w a ab ao an la) (hRb : Row w b bb bo bn lb) (hM : M ≤ an) (hM2 : M ≤ bn) (hn : an + bn ≤ 1000000) (hac : an ≤ ac) (hbc : bn ≤ bc) (hna : a = none → ac = 0) (hnb : b = none → bc = 0) :
    Calls Try.prog 20 #[.slice a an ac, .slice b bn bc, .int .i64 M] w fun e w' => ∃ v, e = .returned (.tuple #[v, .int .i64 0]) ∧ Ints w' w.heap.size v (crossL la lb (an - M) M) ∧ Below w.heap.size w w' := by
  cases a with
  | some p => exact rcross_some p b ab ao bb bo an bn ac bc M la lb w hRa hRb hM hM2 hn hac hbc hnb
  | none =>
    have h0 := hna rfl
    obtain rfl : an = 0 := by omega
    obtain rfl : M = 0 := by omega
    subst h0
    obtain rfl : la = [] := List.eq_nil_of_length_eq_zero hRa.len
    have h := rcross_nil b bb bo bn bc lb w hRb (by omega) hbc hnb
    have e : crossL [] lb (0 - 0) 0 = lb := by simp [crossL]
    rw [e]
    exact h

theorem g01 : gnR 0 1 = 32768 ∧ gnE 0 1 = 0 := by decide +kernel
theorem g11 : gnR 1 1 = 0 ∧ gnE 1 1 = 1 := by decide +kernel
theorem kI : fdL [100, 100, 100, 100] 3 (fun i => i) 3 = [25, 50, 75, 100] := by decide +kernel
theorem kO : fdL [100, 100, 100, 100] 3 (fun i => 4 - 1 - i) 3 = [100, 75, 50, 25] := by decide +kernel
theorem kC : crossL [100, 100] [0, 0] (2 - 1) 1 = [100, 50, 0] := by decide +kernel
theorem kI2 : fdL [7, 8] 0 (fun i => i) 0 = [7, 8] := by decide +kernel
theorem kC2 : crossL [1] [2] (1 - 0) 0 = [1, 2] := by decide +kernel
theorem n73 : ¬ FOk ((2 : Nat) : Int) 3 := by decide +kernel

set_option maxRecDepth 100000 in
set_option maxHeartbeats 4000000 in
theorem sane_any (w : World) :
    Calls Try.prog 10 #[] w fun e w' => e = .returned (.bool true) ∧ Below w.heap.size w w' := by
  go_enter Try.func10, Try.ntmps10
  have hB := Below.refl w.heap.size w
  have RF := Row.lit w #[.int .i64 100, .int .i64 100, .int .i64 100, .int .i64 100] [100, 100, 100, 100] 4 (by rfl) (by rfl)
  replace hB := hB.alloc hB.size (.cells #[.int .i64 100, .int .i64 100, .int .i64 100, .int .i64 100] 3)
  go_wp2_with fail
  refine (fgain_any _ _ _).mono ?_; rintro e w' ⟨rfl, rfl⟩; rw [g01.1, g01.2]
  go_wp2_with fail
  refine (fgain_any _ _ _).mono ?_; rintro e w' ⟨rfl, rfl⟩; rw [g11.1, g11.2]
  generalize w.alloc (.cells #[.int .i64 100, .int .i64 100, .int .i64 100, .int .i64 100] 3) = w0 at *
  go_wp2_with fail
  refine (in_ok _ _ _ 4 _ 3 _ _ RF (by omega) (by omega)).mono ?_; rintro e w1 ⟨v, rfl, hO, hb⟩
  rw [kI] at hO
  replace RF := RF.below hb (Nat.le_refl _)
  replace hB := below_after hB hb hB.size
  obtain ⟨a1, b1, c1, rfl, R1, -, -⟩ := hO.row
  clear hb hO
  go_wp2_with fail
  refine (out_ok _ _ _ 4 _ 3 _ _ RF (by omega) (by omega)).mono ?_; rintro e w2 ⟨v, rfl, hO, hb⟩
  rw [kO] at hO
  replace RF := RF.below hb (Nat.le_refl _)
  replace R1 := R1.below hb (Nat.le_refl _)
  replace hB := below_after hB hb hB.size
  obtain ⟨a2, b2, c2, rfl, R2, -, -⟩ := hO.row
  clear hb hO
  have RA := (Row.lit w2 #[.int .i64 100, .int .i64 100] [100, 100] 2 (by rfl) (by rfl)).below ((Below.refl _ _).alloc (Nat.le_refl _) (.cells #[.int .i64 0, .int .i64 0] 3)) (Nat.le_refl _)
  have RB := Row.lit (w2.alloc (.cells #[.int .i64 100, .int .i64 100] 3)) #[.int .i64 0, .int .i64 0] [0, 0] 2 (by rfl) (by rfl)
  rw [World.size_alloc] at RB
  have hBL : Below w.heap.size w ((w2.alloc (.cells #[.int .i64 100, .int .i64 100] 3)).alloc (.cells #[.int .i64 0, .int .i64 0] 3)) := (hB.alloc hB.size _).alloc (by rw [World.size_alloc]; have := hB.size; omega) _
  have hBW : Below w2.heap.size w2 ((w2.alloc (.cells #[.int .i64 100, .int .i64 100] 3)).alloc (.cells #[.int .i64 0, .int .i64 0] 3)) := ((Below.refl _ _).alloc (Nat.le_refl _) _).alloc (by rw [World.size_alloc]; omega) _
  go_wp2_with fail
  refine (cross_ok _ _ _ _ _ _ 2 2 2 2 1 [100, 100] [0, 0] _ RA RB (by omega) (by omega) (by omega) (by omega) (by omega) (fun h => by cases h) (fun h => by cases h)).mono ?_; rintro e w3 ⟨v, rfl, hO, hb⟩
  rw [kC] at hO
  replace R1 := (R1.below hBW (Nat.le_refl _)).below hb (Nat.le_refl _)
  replace R2 := (R2.below hBW (Nat.le_refl _)).below hb (Nat.le_refl _)
  replace hB := below_after hBL hb hBL.size
  clear RA RB hBL hBW
  obtain ⟨a3, b3, c3, rfl, R3, -, -⟩ := hO.row
  clear hb hO
  go_wp2_with fail
  refine (in_ok _ _ _ 2 _ 0 [7, 8] _ (Row.lit w3 _ _ _ (by rfl) (by rfl)) (by omega) (by omega)).mono ?_; rintro e w4 ⟨v, rfl, hO, hb⟩
  rw [kI2] at hO
  replace R1 := (R1.below ((Below.refl _ _).alloc (Nat.le_refl _) _) (Nat.le_refl _)).below hb (Nat.le_refl _)
  replace R2 := (R2.below ((Below.refl _ _).alloc (Nat.le_refl _) _) (Nat.le_refl _)).below hb (Nat.le_refl _)
  replace R3 := (R3.below ((Below.refl _ _).alloc (Nat.le_refl _) _) (Nat.le_refl _)).below hb (Nat.le_refl _)
  replace hB := below_after (hB.alloc hB.size _) hb (by have := hB.size; simp <;> omega)
  obtain ⟨a4, b4, c4, rfl, R4, -, -⟩ := hO.row
  clear hb hO
  go_wp2_with fail
  refine (in_no _ 2 _ 3 _ n73).mono ?_; rintro e w' ⟨rfl, rfl⟩
  replace R1 := R1.below ((Below.refl _ _).alloc (Nat.le_refl _) (.cells #[.int .i64 7, .int .i64 8] 3)) (Nat.le_refl _)
  replace R2 := R2.below ((Below.refl _ _).alloc (Nat.le_refl _) (.cells #[.int .i64 7, .int .i64 8] 3)) (Nat.le_refl _)
  replace R3 := R3.below ((Below.refl _ _).alloc (Nat.le_refl _) (.cells #[.int .i64 7, .int .i64 8] 3)) (Nat.le_refl _)
  replace R4 := R4.below ((Below.refl _ _).alloc (Nat.le_refl _) (.cells #[.int .i64 7, .int .i64 8] 3)) (Nat.le_refl _)
  replace hB := hB.alloc hB.size (.cells #[.int .i64 7, .int .i64 8] 3)
  generalize w4.alloc (.cells #[.int .i64 7, .int .i64 8] 3) = wk at *
  have RA := (Row.lit wk #[.int .i64 1] [1] 1 (by rfl) (by rfl)).below ((Below.refl _ _).alloc (Nat.le_refl _) (.cells #[.int .i64 2] 3)) (Nat.le_refl _)
  have RB := Row.lit (wk.alloc (.cells #[.int .i64 1] 3)) #[.int .i64 2] [2] 1 (by rfl) (by rfl)
  rw [World.size_alloc] at RB
  have hBL : Below w.heap.size w ((wk.alloc (.cells #[.int .i64 1] 3)).alloc (.cells #[.int .i64 2] 3)) := (hB.alloc hB.size _).alloc (by rw [World.size_alloc]; have := hB.size; omega) _
  have hBW : Below wk.heap.size wk ((wk.alloc (.cells #[.int .i64 1] 3)).alloc (.cells #[.int .i64 2] 3)) := ((Below.refl _ _).alloc (Nat.le_refl _) _).alloc (by rw [World.size_alloc]; omega) _
  go_wp2_with fail
  refine (cross_ok _ _ _ _ _ _ 1 1 1 1 0 [1] [2] _ RA RB (by omega) (by omega) (by omega) (by omega) (by omega) (fun h => by cases h) (fun h => by cases h)).mono ?_; rintro e w5 ⟨v, rfl, hO, hb⟩
  rw [kC2] at hO
  replace R1 := (R1.below hBW (Nat.le_refl _)).below hb (Nat.le_refl _)
  replace R2 := (R2.below hBW (Nat.le_refl _)).below hb (Nat.le_refl _)
  replace R3 := (R3.below hBW (Nat.le_refl _)).below hb (Nat.le_refl _)
  replace R4 := (R4.below hBW (Nat.le_refl _)).below hb (Nat.le_refl _)
  replace hB := below_after hBL hb hBL.size
  clear RA RB hBL hBW
  obtain ⟨a5, b5, c5, rfl, R5, -, -⟩ := hO.row
  clear hb hO
  go_wp2_with fail
  refine (same_any _ _ _ _ _ _ _ 4 _ _ _ [25, 50, 75, 100] _ (R1.below ((Below.refl _ _).alloc (Nat.le_refl _) _) (Nat.le_refl _)) (Row.lit w5 _ _ _ (by rfl) (by rfl)) (by simp) (by omega) rfl).mono ?_; rintro e w6 ⟨rfl, hb⟩
  replace R2 := (R2.below ((Below.refl _ _).alloc (Nat.le_refl _) _) (Nat.le_refl _)).below hb (Nat.le_refl _)
  replace R3 := (R3.below ((Below.refl _ _).alloc (Nat.le_refl _) _) (Nat.le_refl _)).below hb (Nat.le_refl _)
  replace R4 := (R4.below ((Below.refl _ _).alloc (Nat.le_refl _) _) (Nat.le_refl _)).below hb (Nat.le_refl _)
  replace R5 := (R5.below ((Below.refl _ _).alloc (Nat.le_refl _) _) (Nat.le_refl _)).below hb (Nat.le_refl _)
  replace hB := below_after (hB.alloc hB.size _) hb (by have := hB.size; simp <;> omega)
  clear hb R1
  go_wp2_with fail
  refine (same_any _ _ _ _ _ _ _ 4 _ _ _ [100, 75, 50, 25] _ (R2.below ((Below.refl _ _).alloc (Nat.le_refl _) _) (Nat.le_refl _)) (Row.lit w6 _ _ _ (by rfl) (by rfl)) (by simp) (by omega) rfl).mono ?_; rintro e w7 ⟨rfl, hb⟩
  replace R3 := (R3.below ((Below.refl _ _).alloc (Nat.le_refl _) _) (Nat.le_refl _)).below hb (Nat.le_refl _)
  replace R4 := (R4.below ((Below.refl _ _).alloc (Nat.le_refl _) _) (Nat.le_refl _)).below hb (Nat.le_refl _)
  replace R5 := (R5.below ((Below.refl _ _).alloc (Nat.le_refl _) _) (Nat.le_refl _)).below hb (Nat.le_refl _)
  replace hB := below_after (hB.alloc hB.size _) hb (by have := hB.size; simp <;> omega)
  clear hb R2
  go_wp2_with fail
  refine (same_any _ _ _ _ _ _ _ 3 _ _ _ [100, 50, 0] _ (R3.below ((Below.refl _ _).alloc (Nat.le_refl _) _) (Nat.le_refl _)) (Row.lit w7 _ _ _ (by rfl) (by rfl)) (by simp) (by omega) rfl).mono ?_; rintro e w8 ⟨rfl, hb⟩
  replace R4 := (R4.below ((Below.refl _ _).alloc (Nat.le_refl _) _) (Nat.le_refl _)).below hb (Nat.le_refl _)
  replace R5 := (R5.below ((Below.refl _ _).alloc (Nat.le_refl _) _) (Nat.le_refl _)).below hb (Nat.le_refl _)
  replace hB := below_after (hB.alloc hB.size _) hb (by have := hB.size; simp <;> omega)
  clear hb R3
  go_wp2_with fail
  refine (same_any _ _ _ _ _ _ _ 2 _ _ _ [7, 8] _ (R4.below ((Below.refl _ _).alloc (Nat.le_refl _) _) (Nat.le_refl _)) (Row.lit w8 _ _ _ (by rfl) (by rfl)) (by simp) (by omega) rfl).mono ?_; rintro e w9 ⟨rfl, hb⟩
  replace R5 := (R5.below ((Below.refl _ _).alloc (Nat.le_refl _) _) (Nat.le_refl _)).below hb (Nat.le_refl _)
  replace hB := below_after (hB.alloc hB.size _) hb (by have := hB.size; simp <;> omega)
  clear hb R4
  go_wp2_with fail
  refine (same_any _ _ _ _ _ _ _ 2 _ _ _ [1, 2] _ (R5.below ((Below.refl _ _).alloc (Nat.le_refl _) _) (Nat.le_refl _)) (Row.lit w9 _ _ _ (by rfl) (by rfl)) (by simp) (by omega) rfl).mono ?_; rintro e w10 ⟨rfl, hb⟩
  replace hB := below_after (hB.alloc hB.size _) hb (by have := hB.size; simp <;> omega)
  clear hb R5
  go_wp2_with fail
  go_ret
  exact ⟨rfl, hB⟩
end Go.Proofs.Ytagikfiiljdpnaa
