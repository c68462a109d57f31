/- The examples of layer 7. -/
import Derived.Test.YtaaoekddhgjckaaRatRefMain
namespace Go.Proofs.Ytaaoekddhgjckaa
open Go.ChangeShapes Go.WideShapes Go.ChangeAt Go.RowKit

theorem q1N : makeN 6 (-4) = -3 := by decide +kernel
theorem q1D : makeD 6 (-4) = 2 := by decide +kernel
theorem q1E : makeE 6 (-4) = 0 := by decide +kernel
theorem q2N : makeN 1 0 = 0 := by decide +kernel
theorem q2D : makeD 1 0 = 0 := by decide +kernel
theorem q2E : makeE 1 0 = 1 := by decide +kernel
theorem q3N : makeN 0 (-7) = 0 := by decide +kernel
theorem q3D : makeD 0 (-7) = 1 := by decide +kernel
theorem q3E : makeE 0 (-7) = 0 := by decide +kernel
theorem q4N : makeN 1 2147483648 = 0 := by decide +kernel
theorem q4D : makeD 1 2147483648 = 0 := by decide +kernel
theorem q4E : makeE 1 2147483648 = 70 := by decide +kernel
theorem q5N : makeN 2147483648 2 = 1073741824 := by decide +kernel
theorem q5D : makeD 2147483648 2 = 1 := by decide +kernel
theorem q5E : makeE 2147483648 2 = 0 := by decide +kernel
theorem q6N : addN 1 2 1 3 = 5 := by decide +kernel
theorem q6D : addD 1 2 1 3 = 6 := by decide +kernel
theorem q6E : addE 1 2 1 3 = 0 := by decide +kernel
theorem q7N : invN (-3) 2 = -2 := by decide +kernel
theorem q7D : invD (-3) 2 = 3 := by decide +kernel
theorem q7E : invE (-3) 2 = 0 := by decide +kernel
theorem q8N : invN 0 1 = 0 := by decide +kernel
theorem q8D : invD 0 1 = 0 := by decide +kernel
theorem q8E : invE 0 1 = 1 := by decide +kernel
theorem q9F : floorV (-3) 2 = -2 := by decide +kernel
theorem q9E : ratOk (-3) 2 = 0 := by decide +kernel
theorem q10L : lessV (-3) 2 0 1 = true := by decide +kernel
theorem q10E : lessE (-3) 2 0 1 = 0 := by decide +kernel
theorem q11 : ratOk 2 4 = 70 := by decide +kernel
theorem q12 : ratOk (-3) 2 = 0 := by decide +kernel

set_option maxRecDepth 100000 in
set_option maxHeartbeats 2000000 in
theorem sane_any (w : World) :
    Calls Try.prog 10 #[] w fun e w' => e = .returned (.bool true) ∧ Below w.heap.size w w' := by
  have B := Below.refl w.heap.size w
  go_enter Try.func10, Try.ntmps10
  go_wp2_with fail
  refine (make_any _ _ _).mono ?_; rintro e w1 ⟨rfl, hb⟩
  rw [q1N, q1D, q1E]
  have z1 := hb.size
  replace B := below_after B hb (by omega)
  clear hb
  go_wp2_with fail
  refine (make_any _ _ _).mono ?_; rintro e w2 ⟨rfl, hb⟩
  rw [q2N, q2D, q2E]
  have z2 := hb.size; simp at z2
  replace B := below_after (B.alloc (by omega) _) hb (by simp; omega)
  have K_a := Lib.hid (blk_below (blk_new w1 _) hb (by simp))
  clear hb
  go_wp2_with fail
  refine (make_any _ _ _).mono ?_; rintro e w3 ⟨rfl, hb⟩
  rw [q3N, q3D, q3E]
  have z3 := hb.size; simp at z3
  replace B := below_after (B.alloc (by omega) _) hb (by simp; omega)
  replace K_a := Lib.hid (blk_below (blk_alloc K_a.out _) hb (by simp; omega))
  have K_x2 := Lib.hid (blk_below (blk_new w2 _) hb (by simp))
  clear hb
  go_wp2_with fail
  refine (make_any _ _ _).mono ?_; rintro e w4 ⟨rfl, hb⟩
  rw [q4N, q4D, q4E]
  have z4 := hb.size; simp at z4
  replace B := below_after (B.alloc (by omega) _) hb (by simp; omega)
  replace K_a := Lib.hid (blk_below (blk_alloc K_a.out _) hb (by simp; omega))
  replace K_x2 := Lib.hid (blk_below (blk_alloc K_x2.out _) hb (by simp; omega))
  have K_zero := Lib.hid (blk_below (blk_new w3 _) hb (by simp))
  clear hb
  go_wp2_with fail
  refine (make_any _ _ _).mono ?_; rintro e w5 ⟨rfl, hb⟩
  rw [q5N, q5D, q5E]
  have z5 := hb.size; simp at z5
  replace B := below_after (B.alloc (by omega) _) hb (by simp; omega)
  replace K_a := Lib.hid (blk_below (blk_alloc K_a.out _) hb (by simp; omega))
  replace K_x2 := Lib.hid (blk_below (blk_alloc K_x2.out _) hb (by simp; omega))
  replace K_zero := Lib.hid (blk_below (blk_alloc K_zero.out _) hb (by simp; omega))
  have K_x4 := Lib.hid (blk_below (blk_new w4 _) hb (by simp))
  clear hb
  go_wp2_with fail
  refine (add_any _ _ _ _ _).mono ?_; rintro e w6 ⟨rfl, hb⟩
  rw [q6N, q6D, q6E]
  have z6 := hb.size; simp at z6
  replace B := below_after (B.alloc (by omega) _) hb (by simp; omega)
  replace K_a := Lib.hid (blk_below (blk_alloc K_a.out _) hb (by simp; omega))
  replace K_x2 := Lib.hid (blk_below (blk_alloc K_x2.out _) hb (by simp; omega))
  replace K_zero := Lib.hid (blk_below (blk_alloc K_zero.out _) hb (by simp; omega))
  replace K_x4 := Lib.hid (blk_below (blk_alloc K_x4.out _) hb (by simp; omega))
  have K_half := Lib.hid (blk_below (blk_new w5 _) hb (by simp))
  clear hb
  have l_a : w1.heap.size < w6.heap.size := by omega
  have c_a_0 := blk_cell K_a.out 0; simp at c_a_0
  have c_a_1 := blk_cell K_a.out 1; simp at c_a_1
  go_wp2_with fail
  refine (inv_any _ _ _).mono ?_; rintro e w7 ⟨rfl, hb⟩
  rw [q7N, q7D, q7E]
  clear c_a_0 c_a_1 l_a
  have z7 := hb.size; simp at z7
  replace B := below_after (B.alloc (by omega) _) hb (by simp; omega)
  replace K_a := Lib.hid (blk_below (blk_alloc K_a.out _) hb (by simp; omega))
  replace K_x2 := Lib.hid (blk_below (blk_alloc K_x2.out _) hb (by simp; omega))
  replace K_zero := Lib.hid (blk_below (blk_alloc K_zero.out _) hb (by simp; omega))
  replace K_x4 := Lib.hid (blk_below (blk_alloc K_x4.out _) hb (by simp; omega))
  replace K_half := Lib.hid (blk_below (blk_alloc K_half.out _) hb (by simp; omega))
  have K_sum := Lib.hid (blk_below (blk_new w6 _) hb (by simp))
  clear hb
  have l_zero : w3.heap.size < w7.heap.size := by omega
  have c_zero_0 := blk_cell K_zero.out 0; simp at c_zero_0
  have c_zero_1 := blk_cell K_zero.out 1; simp at c_zero_1
  go_wp2_with fail
  refine (inv_any _ _ _).mono ?_; rintro e w8 ⟨rfl, hb⟩
  rw [q8N, q8D, q8E]
  clear c_zero_0 c_zero_1 l_zero
  have z8 := hb.size; simp at z8
  replace B := below_after (B.alloc (by omega) _) hb (by simp; omega)
  replace K_a := Lib.hid (blk_below (blk_alloc K_a.out _) hb (by simp; omega))
  replace K_x2 := Lib.hid (blk_below (blk_alloc K_x2.out _) hb (by simp; omega))
  replace K_zero := Lib.hid (blk_below (blk_alloc K_zero.out _) hb (by simp; omega))
  replace K_x4 := Lib.hid (blk_below (blk_alloc K_x4.out _) hb (by simp; omega))
  replace K_half := Lib.hid (blk_below (blk_alloc K_half.out _) hb (by simp; omega))
  replace K_sum := Lib.hid (blk_below (blk_alloc K_sum.out _) hb (by simp; omega))
  have K_b := Lib.hid (blk_below (blk_new w7 _) hb (by simp))
  clear hb
  have l_a : w1.heap.size < w8.heap.size := by omega
  have c_a_0 := blk_cell K_a.out 0; simp at c_a_0
  have c_a_1 := blk_cell K_a.out 1; simp at c_a_1
  go_wp2_with fail
  refine (floor_any _ _ _).mono ?_; rintro e w9 ⟨rfl, hb⟩
  rw [q9F, q9E]
  clear c_a_0 c_a_1 l_a
  have z9 := hb.size; simp at z9
  replace B := below_after (B.alloc (by omega) _) hb (by simp; omega)
  replace K_a := Lib.hid (blk_below (blk_alloc K_a.out _) hb (by simp; omega))
  replace K_x2 := Lib.hid (blk_below (blk_alloc K_x2.out _) hb (by simp; omega))
  replace K_zero := Lib.hid (blk_below (blk_alloc K_zero.out _) hb (by simp; omega))
  replace K_x4 := Lib.hid (blk_below (blk_alloc K_x4.out _) hb (by simp; omega))
  replace K_half := Lib.hid (blk_below (blk_alloc K_half.out _) hb (by simp; omega))
  replace K_sum := Lib.hid (blk_below (blk_alloc K_sum.out _) hb (by simp; omega))
  replace K_b := Lib.hid (blk_below (blk_alloc K_b.out _) hb (by simp; omega))
  have K_x8 := Lib.hid (blk_below (blk_new w8 _) hb (by simp))
  clear hb
  have c_a_0 := blk_cell K_a.out 0; simp at c_a_0
  have c_a_1 := blk_cell K_a.out 1; simp at c_a_1
  have c_zero_0 := blk_cell K_zero.out 0; simp at c_zero_0
  have c_zero_1 := blk_cell K_zero.out 1; simp at c_zero_1
  go_wp2_with fail
  refine (less_any _ _ _ _ _).mono ?_; rintro e w10 ⟨rfl, hb⟩
  rw [q10L, q10E]
  clear c_a_0 c_a_1
  clear c_zero_0 c_zero_1
  have z10 := hb.size
  replace B := below_after B hb (by omega)
  replace K_a := Lib.hid (blk_below K_a.out hb (by omega))
  replace K_x2 := Lib.hid (blk_below K_x2.out hb (by omega))
  replace K_zero := Lib.hid (blk_below K_zero.out hb (by omega))
  replace K_x4 := Lib.hid (blk_below K_x4.out hb (by omega))
  replace K_half := Lib.hid (blk_below K_half.out hb (by omega))
  replace K_sum := Lib.hid (blk_below K_sum.out hb (by omega))
  replace K_b := Lib.hid (blk_below K_b.out hb (by omega))
  replace K_x8 := Lib.hid (blk_below K_x8.out hb (by omega))
  clear hb
  have c_a_0 := blk_cell K_a.out 0; simp at c_a_0
  have c_a_1 := blk_cell K_a.out 1; simp at c_a_1
  have c_zero_0 := blk_cell K_zero.out 0; simp at c_zero_0
  have c_zero_1 := blk_cell K_zero.out 1; simp at c_zero_1
  have c_half_0 := blk_cell K_half.out 0; simp at c_half_0
  have c_half_1 := blk_cell K_half.out 1; simp at c_half_1
  have c_sum_0 := blk_cell K_sum.out 0; simp at c_sum_0
  have c_sum_1 := blk_cell K_sum.out 1; simp at c_sum_1
  have c_b_0 := blk_cell K_b.out 0; simp at c_b_0
  have c_b_1 := blk_cell K_b.out 1; simp at c_b_1
  go_wp2_with fail
  refine (check_any _ _ _).mono ?_; rintro e w11 ⟨rfl, hb⟩
  rw [q11]
  have c3 := (hb.cell (p := ⟨w1.heap.size, 0, none⟩) (show w1.heap.size < _ by omega)).trans c_a_0
  have c4 := (hb.cell (p := ⟨w1.heap.size, 1, none⟩) (show w1.heap.size < _ by omega)).trans c_a_1
  go_wp2_with fail
  refine (check_any _ _ _).mono ?_; rintro e w12 ⟨rfl, hb2⟩
  rw [q12]
  have z11 := hb.size
  go_wp2
  go_ret
  exact ⟨rfl, below_after (below_after B hb (by omega)) hb2 (by omega)⟩
end Go.Proofs.Ytaaoekddhgjckaa
