/- The walks of RationalReduced (layer 7). -/
import Derived.Test.YtaaoekddhgjckaaRatSane
import Derived.Test.YtaaoekddhgjckaaRatLawMath
namespace Go.Proofs.Ytaaoekddhgjckaa
open Go.ChangeShapes Go.WideShapes Go.ChangeAt Go.RowKit

theorem mul_k {x k : Int} (h1 : -2147483648 ≤ x) (h2 : x ≤ 2147483647) (k1 : 0 ≤ k) (k2 : k ≤ 65535) : -140737488355328 ≤ x * k ∧ x * k ≤ 140737488355328 := by
  have a1 : x * k ≤ 2147483647 * k := Int.mul_le_mul_of_nonneg_right h2 k1
  have a2 : -2147483648 * k ≤ x * k := Int.mul_le_mul_of_nonneg_right h1 k1
  omega
theorem make_zero (n : Int) : makeN n 0 = 0 ∧ makeD n 0 = 0 ∧ makeE n 0 = 1 := by
  have h : ¬ makeArg n 0 := fun k => k.1 rfl
  have g : ¬ makeGood n 0 := fun k => h k.1
  simp only [makeN, makeD, makeE, if_neg g, if_neg h, and_self]
theorem make_arg {n d : Int} (hd : d ≠ 0) (n1 : -140737488355328 ≤ n) (n2 : n ≤ 140737488355328) (d1 : -140737488355328 ≤ d) (d2 : d ≤ 140737488355328) : makeArg n d := ⟨hd, by omega, by omega, by omega, by omega⟩
theorem make_k {n d k : Int} (hd : d ≠ 0) (hk : k ≠ 0) (n1 : -2147483648 ≤ n) (n2 : n ≤ 2147483647) (d1 : -2147483648 ≤ d) (d2 : d ≤ 2147483647) (k1 : 0 ≤ k) (k2 : k ≤ 65535) :
    makeN (n * k) (d * k) = makeN n d ∧ makeD (n * k) (d * k) = makeD n d ∧ makeE (n * k) (d * k) = makeE n d := by
  have p1 := mul_k n1 n2 k1 k2
  have p2 := mul_k d1 d2 k1 k2
  have hdk : d * k ≠ 0 := Int.mul_ne_zero hd hk
  have a1 := make_arg (n := n) hd (by omega) (by omega) (by omega) (by omega)
  have a2 := make_arg (n := n * k) hdk p1.1 p1.2 p2.1 p2.2
  have r := red_eq (n := n * k) (n' := n) hdk hd (by rw [Int.mul_assoc, Int.mul_comm k d])
  have f := fits_eq r
  simp only [makeN, makeD, makeE, makeGood, a1, a2, r.1, r.2, f, true_and, and_self]
theorem make_bad' {n d : Int} (hd : d ≠ 0) (n1 : -2147483648 ≤ n) (n2 : n ≤ 2147483647) (d1 : -2147483648 ≤ d) (d2 : d ≤ 2147483647) (hg : ¬ Fits n d) :
    makeN n d = 0 ∧ makeD n d = 0 ∧ makeE n d = 70 ∧ (n = -2147483648 ∨ d = -2147483648) := by
  have a1 := make_arg (n := n) hd (by omega) (by omega) (by omega) (by omega)
  have g : ¬ makeGood n d := fun k => hg k.2
  simp only [makeN, makeD, makeE, if_neg g, if_pos a1, true_and]
  refine Classical.byContradiction fun h => hg ?_
  have b1 := tdiv_bd n (g := gs n d) 2147483647 (by omega) (by omega)
  have b2 := tdiv_bd d (g := gs n d) 2147483647 (by omega) (by omega)
  exact ⟨b2.2, b1.1, b1.2⟩
theorem prod_in {x y : Int} (h1 : -2147483648 ≤ x) (h2 : x ≤ 2147483648) (h3 : -2147483648 ≤ y) (h4 : y ≤ 2147483648) : -4611686018427387904 ≤ x * y ∧ x * y ≤ 4611686018427387904 := by
  have a1 : 0 ≤ (2147483648 - x) * (2147483648 + y) := Int.mul_nonneg (by omega) (by omega)
  have a2 : 0 ≤ (2147483648 + x) * (2147483648 - y) := Int.mul_nonneg (by omega) (by omega)
  have a3 : 0 ≤ (2147483648 - x) * (2147483648 - y) := Int.mul_nonneg (by omega) (by omega)
  have a4 : 0 ≤ (2147483648 + x) * (2147483648 + y) := Int.mul_nonneg (by omega) (by omega)
  simp only [Int.sub_mul, Int.add_mul, Int.mul_sub, Int.mul_add] at a1 a2 a3 a4
  omega
theorem make_good {n d : Int} (hd : d ≠ 0) (n1 : -2147483648 ≤ n) (n2 : n ≤ 2147483647) (d1 : -2147483648 ≤ d) (d2 : d ≤ 2147483647) (hg : Fits n d) :
    makeE n d = 0 ∧ ratOk (makeN n d) (makeD n d) = 0 ∧ makeN n d * d = n * makeD n d ∧ -4611686018427387904 ≤ makeN n d * d ∧ makeN n d * d ≤ 4611686018427387904 ∧ -4611686018427387904 ≤ n * makeD n d ∧ n * makeD n d ≤ 4611686018427387904 := by
  have a1 := make_arg (n := n) hd (by omega) (by omega) (by omega) (by omega)
  have g : makeGood n d := ⟨a1, hg⟩
  simp only [makeN, makeD, makeE, if_pos g, true_and]
  have e := red_cross (n := n) hd
  have m := prod_in (x := redN n d) (y := d) (by have := hg.2.1; omega) (by have := hg.2.2; omega) (by omega) (by omega)
  exact ⟨ok_yes ((fits_iff hd).2 hg), e, m.1, m.2, by rw [← e]; exact m.1, by rw [← e]; exact m.2⟩

set_option maxRecDepth 100000 in
set_option maxHeartbeats 2000000 in
theorem rationalReduced_d0 (n k : Int) (n1 : -2147483648 ≤ n) (n2 : n ≤ 2147483647) (k1 : 0 ≤ k) (k2 : k ≤ 65535)  (w : World) :
    Calls Try.prog 6 #[.int .i32 n, .int .i32 0, .int .u16 k] w fun e w' => e = .returned (.bool true) ∧ Below w.heap.size w w' := by
  have p1 := mul_k n1 n2 k1 k2
  obtain ⟨x0, x1, x2⟩ := make_zero n
  obtain ⟨y0, y1, y2⟩ := make_zero (n * k)
  have B := Below.refl w.heap.size w
  go_enter Try.func6, Try.ntmps6
  go_wp2_with fail
  refine (sane_any _).mono ?_; rintro e w1 ⟨rfl, hb⟩
  have z1 := hb.size
  replace B := below_after B hb (by first | omega | (simp; done) | (simp; omega))
  clear hb
  go_wp2_with fail
  refine (make_any _ _ _).mono ?_; rintro e w2 ⟨rfl, hb⟩
  rw [x0, x1, x2]
  have z2 := hb.size
  replace B := below_after B hb (by first | omega | (simp; done) | (simp; omega))
  clear hb
  go_wp2_with fail
  refine (make_any _ _ _).mono ?_; rintro e w3 ⟨rfl, hb⟩
  rw [y0, y1, y2]
  have z3 := hb.size; simp at z3
  replace B := below_after (B.alloc (by first | omega | (simp; done) | (simp; omega)) _) hb (by first | omega | (simp; done) | (simp; omega))
  have K_r := blk_below (blk_new _ _) hb (by first | omega | (simp; done) | (simp; omega))
  replace K_r := Lib.hid K_r
  clear hb
  go_wp2
  go_ret
  exact ⟨by simp, B.alloc (by first | omega | (simp; done) | (simp; omega)) _⟩

set_option maxRecDepth 100000 in
set_option maxHeartbeats 2000000 in
theorem rationalReduced_k0 (n d : Int) (n1 : -2147483648 ≤ n) (n2 : n ≤ 2147483647) (d1 : -2147483648 ≤ d) (d2 : d ≤ 2147483647) (hd : d ≠ 0) (w : World) :
    Calls Try.prog 6 #[.int .i32 n, .int .i32 d, .int .u16 0] w fun e w' => e = .returned (.bool true) ∧ Below w.heap.size w w' := by
  have hd1 : (d == 0) = false := by simpa using hd
  obtain ⟨y0, y1, y2⟩ := make_zero 0
  have B := Below.refl w.heap.size w
  go_enter Try.func6, Try.ntmps6
  go_wp2_with fail
  refine (sane_any _).mono ?_; rintro e w1 ⟨rfl, hb⟩
  have z1 := hb.size
  replace B := below_after B hb (by first | omega | (simp; done) | (simp; omega))
  clear hb
  go_wp2_with fail
  refine (make_any _ _ _).mono ?_; rintro e w2 ⟨rfl, hb⟩
  have z2 := hb.size
  replace B := below_after B hb (by first | omega | (simp; done) | (simp; omega))
  clear hb
  go_wp2_with fail
  refine (make_any _ _ _).mono ?_; rintro e w3 ⟨rfl, hb⟩
  rw [y0, y1, y2]
  have z3 := hb.size; simp at z3
  replace B := below_after (B.alloc (by first | omega | (simp; done) | (simp; omega)) _) hb (by first | omega | (simp; done) | (simp; omega))
  have K_r := blk_below (blk_new _ _) hb (by first | omega | (simp; done) | (simp; omega))
  replace K_r := Lib.hid K_r
  clear hb
  go_wp2
  go_ret
  exact ⟨by simp, B.alloc (by first | omega | (simp; done) | (simp; omega)) _⟩

set_option maxRecDepth 100000 in
set_option maxHeartbeats 2000000 in
theorem rationalReduced_bad (n d k : Int) (n1 : -2147483648 ≤ n) (n2 : n ≤ 2147483647) (d1 : -2147483648 ≤ d) (d2 : d ≤ 2147483647) (k1 : 0 ≤ k) (k2 : k ≤ 65535) (hd : d ≠ 0) (hk : k ≠ 0) (hg : ¬ Fits n d) (w : World) :
    Calls Try.prog 6 #[.int .i32 n, .int .i32 d, .int .u16 k] w fun e w' => e = .returned (.bool true) ∧ Below w.heap.size w w' := by
  have p1 := mul_k n1 n2 k1 k2
  have p2 := mul_k d1 d2 k1 k2
  have hd1 : (d == 0) = false := by simpa using hd
  have hk1 : (k == 0) = false := by simpa using hk
  have MK := make_k hd hk n1 n2 d1 d2 k1 k2
  obtain ⟨x0, x1, x2, hex⟩ := make_bad' hd n1 n2 d1 d2 hg
  have y0 := MK.1.trans x0; have y1 := MK.2.1.trans x1; have y2 := MK.2.2.trans x2
  clear MK hg hd hk
  have B := Below.refl w.heap.size w
  go_enter Try.func6, Try.ntmps6
  go_wp2_with fail
  refine (sane_any _).mono ?_; rintro e w1 ⟨rfl, hb⟩
  have z1 := hb.size
  replace B := below_after B hb (by first | omega | (simp; done) | (simp; omega))
  clear hb
  go_wp2_with fail
  refine (make_any _ _ _).mono ?_; rintro e w2 ⟨rfl, hb⟩
  rw [x0, x1, x2]
  have z2 := hb.size
  replace B := below_after B hb (by first | omega | (simp; done) | (simp; omega))
  clear hb
  go_wp2_with fail
  refine (make_any _ _ _).mono ?_; rintro e w3 ⟨rfl, hb⟩
  rw [y0, y1, y2]
  have z3 := hb.size; simp at z3
  replace B := below_after (B.alloc (by first | omega | (simp; done) | (simp; omega)) _) hb (by first | omega | (simp; done) | (simp; omega))
  have K_r := blk_below (blk_new _ _) hb (by first | omega | (simp; done) | (simp; omega))
  replace K_r := Lib.hid K_r
  clear hb
  have l_r : w2.heap.size < w3.heap.size := by omega
  have c_r_0 := blk_cell K_r.out 0; simp at c_r_0
  have c_r_1 := blk_cell K_r.out 1; simp at c_r_1
  go_wp2
  all_goals (go_ret; exact ⟨ret_bool (by first | rfl | (simp; done) | (simp; omega)), B.alloc (by first | omega | (simp; done) | (simp; omega)) _⟩)

set_option maxRecDepth 100000 in
set_option maxHeartbeats 2000000 in
theorem rationalReduced_ok (n d k : Int) (n1 : -2147483648 ≤ n) (n2 : n ≤ 2147483647) (d1 : -2147483648 ≤ d) (d2 : d ≤ 2147483647) (k1 : 0 ≤ k) (k2 : k ≤ 65535) (hd : d ≠ 0) (hk : k ≠ 0) (hg : Fits n d) (w : World) :
    Calls Try.prog 6 #[.int .i32 n, .int .i32 d, .int .u16 k] w fun e w' => e = .returned (.bool true) ∧ Below w.heap.size w w' := by
  have p1 := mul_k n1 n2 k1 k2
  have p2 := mul_k d1 d2 k1 k2
  have hd1 : (d == 0) = false := by simpa using hd
  have hk1 : (k == 0) = false := by simpa using hk
  have MK := make_k hd hk n1 n2 d1 d2 k1 k2
  obtain ⟨x2, vc, hx, bx1, bx2, bx3, bx4⟩ := make_good hd n1 n2 d1 d2 hg
  have y0 := MK.1; have y1 := MK.2.1; have y2 := MK.2.2
  have hxb : (makeN n d * d == n * makeD n d) = true := by simp [hx]
  have e0 : (makeE n d == 0) = true := by simp [x2]
  have e1 : (makeE n d != 0) = false := by simp [x2]
  clear MK hg hd hk hx x2
  have B := Below.refl w.heap.size w
  go_enter Try.func6, Try.ntmps6
  go_wp2_with fail
  refine (sane_any _).mono ?_; rintro e w1 ⟨rfl, hb⟩
  have z1 := hb.size
  replace B := below_after B hb (by first | omega | (simp; done) | (simp; omega))
  clear hb
  go_wp2_with fail
  refine (make_any _ _ _).mono ?_; rintro e w2 ⟨rfl, hb⟩
  have z2 := hb.size
  replace B := below_after B hb (by first | omega | (simp; done) | (simp; omega))
  clear hb
  go_wp2_with fail
  refine (make_any _ _ _).mono ?_; rintro e w3 ⟨rfl, hb⟩
  rw [y0, y1, y2]
  have z3 := hb.size; simp at z3
  replace B := below_after (B.alloc (by first | omega | (simp; done) | (simp; omega)) _) hb (by first | omega | (simp; done) | (simp; omega))
  have K_r := blk_below (blk_new _ _) hb (by first | omega | (simp; done) | (simp; omega))
  replace K_r := Lib.hid K_r
  clear hb
  have l_r : w2.heap.size < w3.heap.size := by omega
  have c_r_0 := blk_cell K_r.out 0; simp at c_r_0
  have c_r_1 := blk_cell K_r.out 1; simp at c_r_1
  go_wp2_with fail
  refine (check_any _ _ _).mono ?_; rintro e w4 ⟨rfl, hb⟩
  rw [vc]
  have z4 := hb.size; simp at z4
  replace B := below_after (B.alloc (by first | omega | (simp; done) | (simp; omega)) _) hb (by first | omega | (simp; done) | (simp; omega))
  replace K_r := Lib.hid (blk_below (blk_alloc K_r.out _) hb (by first | omega | (simp; done) | (simp; omega)))
  have K_s := blk_below (blk_new _ _) hb (by first | omega | (simp; done) | (simp; omega))
  replace K_s := Lib.hid K_s
  clear hb
  replace c_r_0 := blk_cell K_r.out 0; replace c_r_1 := blk_cell K_r.out 1; simp at c_r_0 c_r_1
  go_wp2
  go_ret
  exact ⟨by simp, B⟩

theorem rationalReduced_walk (n d k : Int) (w : World) (n1 : -2147483648 ≤ n) (n2 : n ≤ 2147483647) (d1 : -2147483648 ≤ d) (d2 : d ≤ 2147483647) (k1 : 0 ≤ k) (k2 : k ≤ 65535) :
    Calls Try.prog 6 #[.int .i32 n, .int .i32 d, .int .u16 k] w fun e w' => e = .returned (.bool true) ∧ Below w.heap.size w w' := by
  by_cases hd : d = 0
  · subst hd; exact rationalReduced_d0 _ _ n1 n2 k1 k2 _
  · by_cases hk : k = 0
    · subst hk; exact rationalReduced_k0 _ _ n1 n2 d1 d2 hd _
    · by_cases hg : Fits n d
      · exact rationalReduced_ok _ _ _ n1 n2 d1 d2 k1 k2 hd hk hg _
      · exact rationalReduced_bad _ _ _ n1 n2 d1 d2 k1 k2 hd hk hg _
end Go.Proofs.Ytaaoekddhgjckaa
