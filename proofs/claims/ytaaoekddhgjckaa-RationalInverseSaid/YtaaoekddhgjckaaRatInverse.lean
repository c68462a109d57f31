/- The walks of RationalInverse (layer 7). -/
import Derived.Test.YtaaoekddhgjckaaRatSane
import Derived.Test.YtaaoekddhgjckaaRatLawMath
namespace Go.Proofs.Ytaaoekddhgjckaa
open Go.ChangeShapes Go.WideShapes Go.ChangeAt Go.RowKit

theorem inv_bad {n d : Int} (h : ¬ Valid n d) : invN n d = 0 ∧ invD n d = 0 ∧ invE n d = 70 := by
  have g : ¬ invGood n d := fun k => h k.1
  simp only [invN, invD, invE, if_neg g, if_neg h, and_self]
theorem inv_zero {d : Int} (h : Valid 0 d) : invN 0 d = 0 ∧ invD 0 d = 0 ∧ invE 0 d = 1 := by
  have g : ¬ invGood 0 d := fun k => k.2 rfl
  simp only [invN, invD, invE, if_neg g, if_pos h, and_self]
theorem valid_neg {n d : Int} (h : Valid n d) : Valid (-n) d := ⟨h.1, h.2.1, by have := h.2.2.2.1; omega, by have := h.2.2.1; omega, by rw [Int.neg_gcd]; exact h.2.2.2.2⟩
theorem add_neg {n d : Int} (h : Valid n d) : addN n d (-n) d = 0 ∧ addD n d (-n) d = 1 ∧ addE n d (-n) d = 0 := by
  have hd := pos_of_valid h
  have r := red_unique (n := n * d + -n * d) (d := d * d) (N := 0) (D := 1) (Int.mul_ne_zero (by omega) (by omega)) (by omega) (by decide) (by rw [Int.neg_mul]; omega)
  have g : addGood n d (-n) d := ⟨h, valid_neg h, by unfold Fits; rw [r.1, r.2]; omega⟩
  simp only [addN, addD, addE, if_pos g, r.1, r.2, and_self]
theorem inv_ok {n d : Int} (h : Valid n d) (hn : n ≠ 0) : invN n d = d * sgn n ∧ invD n d = n * sgn n ∧ invE n d = 0 ∧ mulN n d (d * sgn n) (n * sgn n) = 1 ∧ mulD n d (d * sgn n) (n * sgn n) = 1 ∧ mulE n d (d * sgn n) (n * sgn n) = 0 ∧
    invN (d * sgn n) (n * sgn n) = n ∧ invD (d * sgn n) (n * sgn n) = d ∧ invE (d * sgn n) (n * sgn n) = 0 ∧ ratOk (d * sgn n) (n * sgn n) = 0 := by
  have g : invGood n d := ⟨h, hn⟩
  obtain ⟨h1, h2, h3, h4, h5⟩ := id h
  have c : Int.gcd d n = 1 := by rw [Int.gcd_comm]; exact h5
  have s : (sgn n = 1 ∧ 0 < n) ∨ (sgn n = -1 ∧ n < 0) := sgn_cases hn
  have vb : Valid (d * sgn n) (n * sgn n) := by
    rcases s with ⟨e, p⟩ | ⟨e, p⟩ <;> rw [e]
    · rw [Int.mul_one, Int.mul_one]; exact ⟨by omega, by omega, by omega, by omega, c⟩
    · rw [show d * -1 = -d by omega, show n * -1 = -n by omega]; exact ⟨by omega, by omega, by omega, by omega, by rw [Int.neg_gcd, Int.gcd_neg]; exact c⟩
  have nz : d * (n * sgn n) ≠ 0 := Int.mul_ne_zero (by omega) (by have := vb.1; omega)
  have r := red_unique (n := n * (d * sgn n)) (d := d * (n * sgn n)) (N := 1) (D := 1) nz (by omega) (by decide) (by grind)
  have gm : mulGood n d (d * sgn n) (n * sgn n) := ⟨h, vb, by unfold Fits; rw [r.1, r.2]; omega⟩
  have dz : d * sgn n ≠ 0 := Int.mul_ne_zero (by omega) (by rcases s with ⟨e, _⟩ | ⟨e, _⟩ <;> omega)
  have gi : invGood (d * sgn n) (n * sgn n) := ⟨vb, dz⟩
  have k1 : (n * sgn n) * sgn (d * sgn n) = n ∧ (d * sgn n) * sgn (d * sgn n) = d := by
    rcases s with ⟨e, p⟩ | ⟨e, p⟩ <;> rw [e]
    · have : sgn (d * 1) = 1 := by unfold sgn; (repeat' split) <;> omega
      rw [this]; omega
    · have : sgn (d * -1) = -1 := by unfold sgn; (repeat' split) <;> omega
      rw [this]; omega
  simp only [invN, invD, invE, mulN, mulD, mulE, if_pos g, if_pos gm, if_pos gi, r.1, r.2, k1.1, k1.2, true_and]
  exact ok_yes vb

set_option maxRecDepth 100000 in
set_option maxHeartbeats 2000000 in
theorem rationalInverse_bad (n d : Int) (hv : ¬ Valid n d) (w : World) :
    Calls Try.prog 7 #[.agg #[.int .i64 n, .int .i64 d]] w fun e w' => e = .returned (.bool true) ∧ Below w.heap.size w w' := by
  obtain ⟨i1, i2, i3⟩ := inv_bad hv
  have hc := ok_no hv
  clear hv
  have B := Below.refl w.heap.size w
  go_enter Try.func7, Try.ntmps7
  go_wp2_with fail
  refine (sane_any _).mono ?_; rintro e w1 ⟨rfl, hb⟩
  have z1 := hb.size; simp at z1
  replace B := below_after (B.alloc (by first | omega | (simp; done) | (simp; omega)) _) hb (by first | omega | (simp; done) | (simp; omega))
  have K_a := blk_below (blk_new _ _) hb (by first | omega | (simp; done) | (simp; omega))
  replace K_a := Lib.hid K_a
  clear hb
  have c_a_0 := blk_cell K_a.out 0; simp at c_a_0
  have c_a_1 := blk_cell K_a.out 1; simp at c_a_1
  go_wp2_with fail
  refine (inv_any _ _ _).mono ?_; rintro e w2 ⟨rfl, hb⟩
  rw [i1, i2, i3]
  clear c_a_0 c_a_1
  have z2 := hb.size
  replace B := below_after B hb (by first | omega | (simp; done) | (simp; omega))
  replace K_a := Lib.hid (blk_below K_a.out hb (by first | omega | (simp; done) | (simp; omega)))
  clear hb
  have l_a : w.heap.size < w2.heap.size := by omega
  have c_a_0 := blk_cell K_a.out 0; simp at c_a_0
  have c_a_1 := blk_cell K_a.out 1; simp at c_a_1
  go_wp2_with fail
  refine (check_any _ _ _).mono ?_; rintro e w3 ⟨rfl, hb⟩
  rw [hc]
  clear c_a_0 c_a_1 l_a
  have z3 := hb.size; simp at z3
  replace B := below_after (B.alloc (by first | omega | (simp; done) | (simp; omega)) _) hb (by first | omega | (simp; done) | (simp; omega))
  replace K_a := Lib.hid (blk_below (blk_alloc K_a.out _) hb (by first | omega | (simp; done) | (simp; omega)))
  have K_b := blk_below (blk_new _ _) hb (by first | omega | (simp; done) | (simp; omega))
  replace K_b := Lib.hid K_b
  clear hb
  have c_b_0 := blk_cell K_b.out 0; simp at c_b_0
  have c_b_1 := blk_cell K_b.out 1; simp at c_b_1
  go_wp2
  go_ret
  exact ⟨by simp, B⟩

set_option maxRecDepth 100000 in
set_option maxHeartbeats 2000000 in
theorem rationalInverse_zero (d : Int) (hv : Valid 0 d) (w : World) :
    Calls Try.prog 7 #[.agg #[.int .i64 0, .int .i64 d]] w fun e w' => e = .returned (.bool true) ∧ Below w.heap.size w w' := by
  obtain ⟨i1, i2, i3⟩ := inv_zero hv
  have hc := ok_yes hv
  obtain ⟨y1, y2, y3⟩ := add_neg hv
  simp only [Int.neg_zero] at y1 y2 y3
  clear hv
  have B := Below.refl w.heap.size w
  go_enter Try.func7, Try.ntmps7
  go_wp2_with fail
  refine (sane_any _).mono ?_; rintro e w1 ⟨rfl, hb⟩
  have z1 := hb.size; simp at z1
  replace B := below_after (B.alloc (by first | omega | (simp; done) | (simp; omega)) _) hb (by first | omega | (simp; done) | (simp; omega))
  have K_a := blk_below (blk_new _ _) hb (by first | omega | (simp; done) | (simp; omega))
  replace K_a := Lib.hid K_a
  clear hb
  have c_a_0 := blk_cell K_a.out 0; simp at c_a_0
  have c_a_1 := blk_cell K_a.out 1; simp at c_a_1
  go_wp2_with fail
  refine (inv_any _ _ _).mono ?_; rintro e w2 ⟨rfl, hb⟩
  rw [i1, i2, i3]
  clear c_a_0 c_a_1
  have z2 := hb.size
  replace B := below_after B hb (by first | omega | (simp; done) | (simp; omega))
  replace K_a := Lib.hid (blk_below K_a.out hb (by first | omega | (simp; done) | (simp; omega)))
  clear hb
  have l_a : w.heap.size < w2.heap.size := by omega
  have c_a_0 := blk_cell K_a.out 0; simp at c_a_0
  have c_a_1 := blk_cell K_a.out 1; simp at c_a_1
  go_wp2_with fail
  refine (check_any _ _ _).mono ?_; rintro e w3 ⟨rfl, hb⟩
  rw [hc]
  clear c_a_0 c_a_1 l_a
  have z3 := hb.size; simp at z3
  replace B := below_after (B.alloc (by first | omega | (simp; done) | (simp; omega)) _) hb (by first | omega | (simp; done) | (simp; omega))
  replace K_a := Lib.hid (blk_below (blk_alloc K_a.out _) hb (by first | omega | (simp; done) | (simp; omega)))
  have K_b := blk_below (blk_new _ _) hb (by first | omega | (simp; done) | (simp; omega))
  replace K_b := Lib.hid K_b
  clear hb
  have c_a_0 := blk_cell K_a.out 0; simp at c_a_0
  have c_a_1 := blk_cell K_a.out 1; simp at c_a_1
  go_wp2_with fail
  refine (add_any _ _ _ _ _).mono ?_; rintro e w4 ⟨rfl, hb⟩
  rw [y1, y2, y3]
  clear c_a_0 c_a_1
  have z4 := hb.size
  replace B := below_after B hb (by first | omega | (simp; done) | (simp; omega))
  replace K_a := Lib.hid (blk_below K_a.out hb (by first | omega | (simp; done) | (simp; omega)))
  replace K_b := Lib.hid (blk_below K_b.out hb (by first | omega | (simp; done) | (simp; omega)))
  clear hb
  have l_a : w.heap.size < w4.heap.size := by omega
  have c_a_0 := blk_cell K_a.out 0; simp at c_a_0
  have c_a_1 := blk_cell K_a.out 1; simp at c_a_1
  go_wp2
  go_ret
  exact ⟨by simp, B.alloc (by first | omega | (simp; done) | (simp; omega)) _⟩

set_option maxRecDepth 100000 in
set_option maxHeartbeats 2000000 in
theorem rationalInverse_ok (n d bn bd : Int) (hv : Valid n d) (hn : n ≠ 0) (eb : bn = d * sgn n) (ed : bd = n * sgn n) (w : World) :
    Calls Try.prog 7 #[.agg #[.int .i64 n, .int .i64 d]] w fun e w' => e = .returned (.bool true) ∧ Below w.heap.size w w' := by
  obtain ⟨i1, i2, i3, m1, m2, m3, j1, j2, j3, vb⟩ := inv_ok hv hn
  rw [← eb] at i1 m1 m2 m3 j1 j2 j3 vb
  rw [← ed] at i2 m1 m2 m3 j1 j2 j3 vb
  have hc := ok_yes hv
  obtain ⟨y1, y2, y3⟩ := add_neg hv
  have hn1 : (n == 0) = false := by simpa using hn
  obtain ⟨_, _, hn3, hn4, _⟩ := id hv
  clear hv eb ed hn
  have B := Below.refl w.heap.size w
  go_enter Try.func7, Try.ntmps7
  go_wp2_with fail
  refine (sane_any _).mono ?_; rintro e w1 ⟨rfl, hb⟩
  have z1 := hb.size; simp at z1
  replace B := below_after (B.alloc (by first | omega | (simp; done) | (simp; omega)) _) hb (by first | omega | (simp; done) | (simp; omega))
  have K_a := blk_below (blk_new _ _) hb (by first | omega | (simp; done) | (simp; omega))
  replace K_a := Lib.hid K_a
  clear hb
  have c_a_0 := blk_cell K_a.out 0; simp at c_a_0
  have c_a_1 := blk_cell K_a.out 1; simp at c_a_1
  go_wp2_with fail
  refine (inv_any _ _ _).mono ?_; rintro e w2 ⟨rfl, hb⟩
  rw [i1, i2, i3]
  clear c_a_0 c_a_1
  have z2 := hb.size
  replace B := below_after B hb (by first | omega | (simp; done) | (simp; omega))
  replace K_a := Lib.hid (blk_below K_a.out hb (by first | omega | (simp; done) | (simp; omega)))
  clear hb
  have l_a : w.heap.size < w2.heap.size := by omega
  have c_a_0 := blk_cell K_a.out 0; simp at c_a_0
  have c_a_1 := blk_cell K_a.out 1; simp at c_a_1
  go_wp2_with fail
  refine (check_any _ _ _).mono ?_; rintro e w3 ⟨rfl, hb⟩
  rw [hc]
  clear c_a_0 c_a_1 l_a
  have z3 := hb.size; simp at z3
  replace B := below_after (B.alloc (by first | omega | (simp; done) | (simp; omega)) _) hb (by first | omega | (simp; done) | (simp; omega))
  replace K_a := Lib.hid (blk_below (blk_alloc K_a.out _) hb (by first | omega | (simp; done) | (simp; omega)))
  have K_b := blk_below (blk_new _ _) hb (by first | omega | (simp; done) | (simp; omega))
  replace K_b := Lib.hid K_b
  clear hb
  have c_a_0 := blk_cell K_a.out 0; simp at c_a_0
  have c_a_1 := blk_cell K_a.out 1; simp at c_a_1
  go_wp2_with fail
  refine (add_any _ _ _ _ _).mono ?_; rintro e w4 ⟨rfl, hb⟩
  rw [y1, y2, y3]
  clear c_a_0 c_a_1
  have z4 := hb.size
  replace B := below_after B hb (by first | omega | (simp; done) | (simp; omega))
  replace K_a := Lib.hid (blk_below K_a.out hb (by first | omega | (simp; done) | (simp; omega)))
  replace K_b := Lib.hid (blk_below K_b.out hb (by first | omega | (simp; done) | (simp; omega)))
  clear hb
  have l_a : w.heap.size < w4.heap.size := by omega
  have c_a_0 := blk_cell K_a.out 0; simp at c_a_0
  have c_a_1 := blk_cell K_a.out 1; simp at c_a_1
  have l_b : w2.heap.size < w4.heap.size := by omega
  have c_b_0 := blk_cell K_b.out 0; simp at c_b_0
  have c_b_1 := blk_cell K_b.out 1; simp at c_b_1
  go_wp2_with fail
  refine (mul_any _ _ _ _ _).mono ?_; rintro e w5 ⟨rfl, hb⟩
  rw [m1, m2, m3]
  clear c_a_0 c_a_1 l_a
  clear c_b_0 c_b_1 l_b
  have z5 := hb.size; simp at z5
  replace B := below_after (B.alloc (by first | omega | (simp; done) | (simp; omega)) _) hb (by first | omega | (simp; done) | (simp; omega))
  replace K_a := Lib.hid (blk_below (blk_alloc K_a.out _) hb (by first | omega | (simp; done) | (simp; omega)))
  replace K_b := Lib.hid (blk_below (blk_alloc K_b.out _) hb (by first | omega | (simp; done) | (simp; omega)))
  have K_zero := blk_below (blk_new _ _) hb (by first | omega | (simp; done) | (simp; omega))
  replace K_zero := Lib.hid K_zero
  clear hb
  have l_b : w2.heap.size < w5.heap.size := by omega
  have c_b_0 := blk_cell K_b.out 0; simp at c_b_0
  have c_b_1 := blk_cell K_b.out 1; simp at c_b_1
  go_wp2_with fail
  refine (inv_any _ _ _).mono ?_; rintro e w6 ⟨rfl, hb⟩
  rw [j1, j2, j3]
  clear c_b_0 c_b_1 l_b
  have z6 := hb.size; simp at z6
  replace B := below_after (B.alloc (by first | omega | (simp; done) | (simp; omega)) _) hb (by first | omega | (simp; done) | (simp; omega))
  replace K_a := Lib.hid (blk_below (blk_alloc K_a.out _) hb (by first | omega | (simp; done) | (simp; omega)))
  replace K_b := Lib.hid (blk_below (blk_alloc K_b.out _) hb (by first | omega | (simp; done) | (simp; omega)))
  replace K_zero := Lib.hid (blk_below (blk_alloc K_zero.out _) hb (by first | omega | (simp; done) | (simp; omega)))
  have K_one := blk_below (blk_new _ _) hb (by first | omega | (simp; done) | (simp; omega))
  replace K_one := Lib.hid K_one
  clear hb
  have l_one : w5.heap.size < w6.heap.size := by omega
  have c_one_0 := blk_cell K_one.out 0; simp at c_one_0
  have c_one_1 := blk_cell K_one.out 1; simp at c_one_1
  have l_a : w.heap.size < w6.heap.size := by omega
  have c_a_0 := blk_cell K_a.out 0; simp at c_a_0
  have c_a_1 := blk_cell K_a.out 1; simp at c_a_1
  have l_b : w2.heap.size < w6.heap.size := by omega
  have c_b_0 := blk_cell K_b.out 0; simp at c_b_0
  have c_b_1 := blk_cell K_b.out 1; simp at c_b_1
  go_wp2_with fail
  refine (check_any _ _ _).mono ?_; rintro e w7 ⟨rfl, hb⟩
  rw [vb]
  clear c_one_0 c_one_1 l_one
  clear c_a_0 c_a_1 l_a
  clear c_b_0 c_b_1 l_b
  have z7 := hb.size; simp at z7
  replace B := below_after (B.alloc (by first | omega | (simp; done) | (simp; omega)) _) hb (by first | omega | (simp; done) | (simp; omega))
  replace K_a := Lib.hid (blk_below (blk_alloc K_a.out _) hb (by first | omega | (simp; done) | (simp; omega)))
  replace K_b := Lib.hid (blk_below (blk_alloc K_b.out _) hb (by first | omega | (simp; done) | (simp; omega)))
  replace K_zero := Lib.hid (blk_below (blk_alloc K_zero.out _) hb (by first | omega | (simp; done) | (simp; omega)))
  replace K_one := Lib.hid (blk_below (blk_alloc K_one.out _) hb (by first | omega | (simp; done) | (simp; omega)))
  have K_c := blk_below (blk_new _ _) hb (by first | omega | (simp; done) | (simp; omega))
  replace K_c := Lib.hid K_c
  clear hb
  go_wp2
  go_ret
  exact ⟨by simp, B⟩

theorem rationalInverse_walk (n d : Int) (w : World) :
    Calls Try.prog 7 #[.agg #[.int .i64 n, .int .i64 d]] w fun e w' => e = .returned (.bool true) ∧ Below w.heap.size w w' := by
  by_cases hv : Valid n d
  · by_cases hn : n = 0
    · subst hn; exact rationalInverse_zero _ hv _
    · exact rationalInverse_ok _ _ _ _ hv hn rfl rfl _
  · exact rationalInverse_bad _ _ hv _
end Go.Proofs.Ytaaoekddhgjckaa
