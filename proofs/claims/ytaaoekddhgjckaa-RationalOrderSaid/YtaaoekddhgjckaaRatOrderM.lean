/- The walks of RationalOrder (layer 7). -/
import Derived.Test.YtaaoekddhgjckaaRatSane
import Derived.Test.YtaaoekddhgjckaaRatLawMath
namespace Go.Proofs.Ytaaoekddhgjckaa
open Go.ChangeShapes Go.WideShapes Go.ChangeAt Go.RowKit

theorem lessV_iff {an ad bn bd : Int} (va : Valid an ad) (vb : Valid bn bd) : lessV an ad bn bd = decide (an * bd < bn * ad) := by unfold lessV; simp [va, vb]
theorem lessV_not {an ad bn bd : Int} (h : lessE an ad bn bd ≠ 0) : lessV an ad bn bd = false := by
  have k : ¬ (Valid an ad ∧ Valid bn bd) := fun k => h (if_pos k)
  unfold lessV; simp; intro h1 h2; exact absurd ⟨h1, h2⟩ k
theorem mul_lt_iff {x y k : Int} (hk : 0 < k) : x * k < y * k ↔ x < y := ⟨fun h => Int.lt_of_mul_lt_mul_right h (by omega), fun h => Int.mul_lt_mul_of_pos_right h hk⟩
theorem less_add {an ad bn bd cn cd : Int} (va : Valid an ad) (vb : Valid bn bd) (vc : Valid cn cd) (hi : addE an ad cn cd = 0) (hj : addE bn bd cn cd = 0) :
    lessV (addN an ad cn cd) (addD an ad cn cd) (addN bn bd cn cd) (addD bn bd cn cd) = lessV an ad bn bd ∧ lessE (addN an ad cn cd) (addD an ad cn cd) (addN bn bd cn cd) (addD bn bd cn cd) = 0 := by
  obtain ⟨_, _, vx, hx⟩ := add_good (addE_iff.1 hi)
  obtain ⟨_, _, vy, hy⟩ := add_good (addE_iff.1 hj)
  refine ⟨?_, if_pos ⟨vx, vy⟩⟩
  rw [lessV_iff vx vy, lessV_iff va vb, decide_eq_decide]
  have pa := pos_of_valid va; have pb := pos_of_valid vb; have pc := pos_of_valid vc; have px := pos_of_valid vx; have py := pos_of_valid vy
  generalize addN an ad cn cd = X at *; generalize addD an ad cn cd = x at *; generalize addN bn bd cn cd = Y at *; generalize addD bn bd cn cd = y at *
  have k1 : 0 < ad * bd * cd := Int.mul_pos (Int.mul_pos pa pb) pc
  have k2 : 0 < x * y * cd := Int.mul_pos (Int.mul_pos px py) pc
  rw [← mul_lt_iff (x := X * y) (k := ad * bd * cd) k1, ← mul_lt_iff (x := an * bd) (k := x * y * cd) k2]
  have e1 : X * y * (ad * bd * cd) = an * bd * (x * y * cd) + cn * (x * y) * (ad * bd) := by
    calc X * y * (ad * bd * cd) = (X * (ad * cd)) * (y * bd) := by grind
      _ = ((an * cd + cn * ad) * x) * (y * bd) := by rw [hx]
      _ = _ := by grind
  have e2 : Y * x * (ad * bd * cd) = bn * ad * (x * y * cd) + cn * (x * y) * (ad * bd) := by
    calc Y * x * (ad * bd * cd) = (Y * (bd * cd)) * (x * ad) := by grind
      _ = ((bn * cd + cn * bd) * y) * (x * ad) := by rw [hy]
      _ = _ := by grind
  rw [e1, e2]; omega
theorem less_mul {an ad bn bd cn cd : Int} (va : Valid an ad) (vb : Valid bn bd) (vc : Valid cn cd) (hi : mulE an ad cn cd = 0) (hj : mulE bn bd cn cd = 0) (hp : 0 < cn) :
    lessV (mulN an ad cn cd) (mulD an ad cn cd) (mulN bn bd cn cd) (mulD bn bd cn cd) = lessV an ad bn bd ∧ lessE (mulN an ad cn cd) (mulD an ad cn cd) (mulN bn bd cn cd) (mulD bn bd cn cd) = 0 := by
  obtain ⟨_, _, vx, hx⟩ := mul_good (mulE_iff.1 hi)
  obtain ⟨_, _, vy, hy⟩ := mul_good (mulE_iff.1 hj)
  refine ⟨?_, if_pos ⟨vx, vy⟩⟩
  rw [lessV_iff vx vy, lessV_iff va vb, decide_eq_decide]
  have pa := pos_of_valid va; have pb := pos_of_valid vb; have pc := pos_of_valid vc; have px := pos_of_valid vx; have py := pos_of_valid vy
  generalize mulN an ad cn cd = X at *; generalize mulD an ad cn cd = x at *; generalize mulN bn bd cn cd = Y at *; generalize mulD bn bd cn cd = y at *
  have k1 : 0 < ad * bd * cd := Int.mul_pos (Int.mul_pos pa pb) pc
  have k2 : 0 < x * y * cn := Int.mul_pos (Int.mul_pos px py) hp
  rw [← mul_lt_iff (x := X * y) (k := ad * bd * cd) k1, ← mul_lt_iff (x := an * bd) (k := x * y * cn) k2]
  have e1 : X * y * (ad * bd * cd) = an * bd * (x * y * cn) := by
    calc X * y * (ad * bd * cd) = (X * (ad * cd)) * (y * bd) := by grind
      _ = ((an * cn) * x) * (y * bd) := by rw [hx]
      _ = _ := by grind
  have e2 : Y * x * (ad * bd * cd) = bn * ad * (x * y * cn) := by
    calc Y * x * (ad * bd * cd) = (Y * (bd * cd)) * (x * ad) := by grind
      _ = ((bn * cn) * y) * (x * ad) := by rw [hy]
      _ = _ := by grind
  rw [e1, e2]
theorem less_total {an ad bn bd : Int} (va : Valid an ad) (vb : Valid bn bd) (h1 : lessV an ad bn bd = false) (h2 : lessV bn bd an ad = false) : bn = an ∧ bd = ad := by
  rw [lessV_iff va vb] at h1
  rw [lessV_iff vb va] at h2
  simp at h1 h2
  exact cop_unique va.1 va.2.2.2.2 vb.1 vb.2.2.2.2 (by omega)
theorem less_anti {an ad bn bd : Int} (va : Valid an ad) (vb : Valid bn bd) (h1 : lessV an ad bn bd = true) : lessV bn bd an ad = false ∧ (an == bn && ad == bd) = false ∧ (bn == an && bd == ad) = false := by
  rw [lessV_iff va vb] at h1
  rw [lessV_iff vb va]
  simp at h1 ⊢
  refine ⟨by omega, ?_, ?_⟩
  · intro e f; subst e; subst f; omega
  · intro e f; subst e; subst f; omega
theorem less_trans {an ad bn bd cn cd : Int} (va : Valid an ad) (vb : Valid bn bd) (vc : Valid cn cd) (h1 : lessV an ad bn bd = true) (h2 : lessV bn bd cn cd = true) : lessV an ad cn cd = true := by
  rw [lessV_iff va vb] at h1
  rw [lessV_iff vb vc] at h2
  rw [lessV_iff va vc]
  simp at h1 h2 ⊢
  have pa := pos_of_valid va; have pb := pos_of_valid vb; have pc := pos_of_valid vc
  rw [← mul_lt_iff (k := bd) pb]
  have k1 := (mul_lt_iff (k := cd) pc).2 h1
  have k2 := (mul_lt_iff (k := ad) pa).2 h2
  have e1 : an * cd * bd = an * bd * cd := by grind
  have e2 : cn * ad * bd = cn * bd * ad := by grind
  have e3 : bn * ad * cd = bn * cd * ad := by grind
  omega
set_option maxRecDepth 100000 in
set_option maxHeartbeats 4000000 in
theorem rationalOrder_bad1 (an ad bn bd cn cd : Int) (h : lessE an ad bn bd ≠ 0) (w : World) :
    Calls Try.prog 8 #[.agg #[.int .i64 an, .int .i64 ad], .agg #[.int .i64 bn, .int .i64 bd], .agg #[.int .i64 cn, .int .i64 cd]] w fun e w' => e = .returned (.bool true) ∧ Below w.heap.size w w' := by
  have f1 := lessV_not h
  have k1 : (lessE an ad bn bd != 0) = true := by simpa using h
  have k0 : (lessE an ad bn bd == 0) = false := by simpa using h
  clear h
  have B := Below.refl w.heap.size w
  go_enter Try.func8, Try.ntmps8
  go_wp2_with fail
  refine (sane_any _).mono ?_; rintro e w1 ⟨rfl, hb⟩
  have z1 := hb.size; simp at z1
  replace B := below_after (((B.alloc (by first | omega | (simp; done) | (simp; omega)) _).alloc (by first | omega | (simp; done) | (simp; omega)) _).alloc (by first | omega | (simp; done) | (simp; omega)) _) hb (by first | omega | (simp; done) | (simp; omega))
  have K_a := blk_below (blk_alloc (blk_alloc (blk_new _ _) _) _) hb (by first | omega | (simp; done) | (simp; omega))
  replace K_a := Lib.hid K_a
  have K_b := blk_below (blk_alloc (blk_new _ _) _) hb (by first | omega | (simp; done) | (simp; omega))
  rw [World.size_alloc] at K_b
  replace K_b := Lib.hid K_b
  have K_c := blk_below (blk_new _ _) hb (by first | omega | (simp; done) | (simp; omega))
  rw [World.size_alloc, World.size_alloc] at K_c
  replace K_c := Lib.hid K_c
  clear hb
  have c_a_0 := blk_cell K_a.out 0; simp at c_a_0
  have c_a_1 := blk_cell K_a.out 1; simp at c_a_1
  have c_b_0 := blk_cell K_b.out 0; simp at c_b_0
  have c_b_1 := blk_cell K_b.out 1; simp at c_b_1
  go_wp2_with fail
  refine (less_any _ _ _ _ _).mono ?_; rintro e w2 ⟨rfl, hb⟩
  rw [f1]
  clear c_a_0 c_a_1
  clear c_b_0 c_b_1
  have z2 := hb.size
  replace B := below_after B hb (by first | omega | (simp; done) | (simp; omega))
  replace K_a := Lib.hid (blk_below K_a.out hb (by first | omega | (simp; done) | (simp; omega)))
  replace K_b := Lib.hid (blk_below K_b.out hb (by first | omega | (simp; done) | (simp; omega)))
  replace K_c := Lib.hid (blk_below K_c.out hb (by first | omega | (simp; done) | (simp; omega)))
  clear hb
  have c_b_0 := blk_cell K_b.out 0; simp at c_b_0
  have c_b_1 := blk_cell K_b.out 1; simp at c_b_1
  have c_a_0 := blk_cell K_a.out 0; simp at c_a_0
  have c_a_1 := blk_cell K_a.out 1; simp at c_a_1
  go_wp2_with fail
  refine (less_any _ _ _ _ _).mono ?_; rintro e w3 ⟨rfl, hb⟩
  clear c_b_0 c_b_1
  clear c_a_0 c_a_1
  have z3 := hb.size
  replace B := below_after B hb (by first | omega | (simp; done) | (simp; omega))
  replace K_a := Lib.hid (blk_below K_a.out hb (by first | omega | (simp; done) | (simp; omega)))
  replace K_b := Lib.hid (blk_below K_b.out hb (by first | omega | (simp; done) | (simp; omega)))
  replace K_c := Lib.hid (blk_below K_c.out hb (by first | omega | (simp; done) | (simp; omega)))
  clear hb
  have c_b_0 := blk_cell K_b.out 0; simp at c_b_0
  have c_b_1 := blk_cell K_b.out 1; simp at c_b_1
  have c_c_0 := blk_cell K_c.out 0; simp at c_c_0
  have c_c_1 := blk_cell K_c.out 1; simp at c_c_1
  go_wp2_with fail
  refine (less_any _ _ _ _ _).mono ?_; rintro e w4 ⟨rfl, hb⟩
  clear c_b_0 c_b_1
  clear c_c_0 c_c_1
  have z4 := hb.size
  replace B := below_after B hb (by first | omega | (simp; done) | (simp; omega))
  replace K_a := Lib.hid (blk_below K_a.out hb (by first | omega | (simp; done) | (simp; omega)))
  replace K_b := Lib.hid (blk_below K_b.out hb (by first | omega | (simp; done) | (simp; omega)))
  replace K_c := Lib.hid (blk_below K_c.out hb (by first | omega | (simp; done) | (simp; omega)))
  clear hb
  have c_a_0 := blk_cell K_a.out 0; simp at c_a_0
  have c_a_1 := blk_cell K_a.out 1; simp at c_a_1
  have c_c_0 := blk_cell K_c.out 0; simp at c_c_0
  have c_c_1 := blk_cell K_c.out 1; simp at c_c_1
  go_wp2_with fail
  refine (less_any _ _ _ _ _).mono ?_; rintro e w5 ⟨rfl, hb⟩
  clear c_a_0 c_a_1
  clear c_c_0 c_c_1
  have z5 := hb.size
  replace B := below_after B hb (by first | omega | (simp; done) | (simp; omega))
  replace K_a := Lib.hid (blk_below K_a.out hb (by first | omega | (simp; done) | (simp; omega)))
  replace K_b := Lib.hid (blk_below K_b.out hb (by first | omega | (simp; done) | (simp; omega)))
  replace K_c := Lib.hid (blk_below K_c.out hb (by first | omega | (simp; done) | (simp; omega)))
  clear hb
  go_wp2
  all_goals (go_ret; exact ⟨by simp, B⟩)

set_option maxRecDepth 100000 in
set_option maxHeartbeats 4000000 in
theorem rationalOrder_bad3 (an ad bn bd cn cd : Int) (e1 : lessE an ad bn bd = 0) (h : lessE bn bd cn cd ≠ 0) (w : World) :
    Calls Try.prog 8 #[.agg #[.int .i64 an, .int .i64 ad], .agg #[.int .i64 bn, .int .i64 bd], .agg #[.int .i64 cn, .int .i64 cd]] w fun e w' => e = .returned (.bool true) ∧ Below w.heap.size w w' := by
  have f3 := lessV_not h
  have k1 : (lessE bn bd cn cd != 0) = true := by simpa using h
  have k0 : (lessE bn bd cn cd == 0) = false := by simpa using h
  clear h
  have B := Below.refl w.heap.size w
  go_enter Try.func8, Try.ntmps8
  go_wp2_with fail
  refine (sane_any _).mono ?_; rintro e w1 ⟨rfl, hb⟩
  have z1 := hb.size; simp at z1
  replace B := below_after (((B.alloc (by first | omega | (simp; done) | (simp; omega)) _).alloc (by first | omega | (simp; done) | (simp; omega)) _).alloc (by first | omega | (simp; done) | (simp; omega)) _) hb (by first | omega | (simp; done) | (simp; omega))
  have K_a := blk_below (blk_alloc (blk_alloc (blk_new _ _) _) _) hb (by first | omega | (simp; done) | (simp; omega))
  replace K_a := Lib.hid K_a
  have K_b := blk_below (blk_alloc (blk_new _ _) _) hb (by first | omega | (simp; done) | (simp; omega))
  rw [World.size_alloc] at K_b
  replace K_b := Lib.hid K_b
  have K_c := blk_below (blk_new _ _) hb (by first | omega | (simp; done) | (simp; omega))
  rw [World.size_alloc, World.size_alloc] at K_c
  replace K_c := Lib.hid K_c
  clear hb
  have c_a_0 := blk_cell K_a.out 0; simp at c_a_0
  have c_a_1 := blk_cell K_a.out 1; simp at c_a_1
  have c_b_0 := blk_cell K_b.out 0; simp at c_b_0
  have c_b_1 := blk_cell K_b.out 1; simp at c_b_1
  go_wp2_with fail
  refine (less_any _ _ _ _ _).mono ?_; rintro e w2 ⟨rfl, hb⟩
  rw [e1]
  clear c_a_0 c_a_1
  clear c_b_0 c_b_1
  have z2 := hb.size
  replace B := below_after B hb (by first | omega | (simp; done) | (simp; omega))
  replace K_a := Lib.hid (blk_below K_a.out hb (by first | omega | (simp; done) | (simp; omega)))
  replace K_b := Lib.hid (blk_below K_b.out hb (by first | omega | (simp; done) | (simp; omega)))
  replace K_c := Lib.hid (blk_below K_c.out hb (by first | omega | (simp; done) | (simp; omega)))
  clear hb
  have c_b_0 := blk_cell K_b.out 0; simp at c_b_0
  have c_b_1 := blk_cell K_b.out 1; simp at c_b_1
  have c_a_0 := blk_cell K_a.out 0; simp at c_a_0
  have c_a_1 := blk_cell K_a.out 1; simp at c_a_1
  go_wp2_with fail
  refine (less_any _ _ _ _ _).mono ?_; rintro e w3 ⟨rfl, hb⟩
  clear c_b_0 c_b_1
  clear c_a_0 c_a_1
  have z3 := hb.size
  replace B := below_after B hb (by first | omega | (simp; done) | (simp; omega))
  replace K_a := Lib.hid (blk_below K_a.out hb (by first | omega | (simp; done) | (simp; omega)))
  replace K_b := Lib.hid (blk_below K_b.out hb (by first | omega | (simp; done) | (simp; omega)))
  replace K_c := Lib.hid (blk_below K_c.out hb (by first | omega | (simp; done) | (simp; omega)))
  clear hb
  have c_b_0 := blk_cell K_b.out 0; simp at c_b_0
  have c_b_1 := blk_cell K_b.out 1; simp at c_b_1
  have c_c_0 := blk_cell K_c.out 0; simp at c_c_0
  have c_c_1 := blk_cell K_c.out 1; simp at c_c_1
  go_wp2_with fail
  refine (less_any _ _ _ _ _).mono ?_; rintro e w4 ⟨rfl, hb⟩
  rw [f3]
  clear c_b_0 c_b_1
  clear c_c_0 c_c_1
  have z4 := hb.size
  replace B := below_after B hb (by first | omega | (simp; done) | (simp; omega))
  replace K_a := Lib.hid (blk_below K_a.out hb (by first | omega | (simp; done) | (simp; omega)))
  replace K_b := Lib.hid (blk_below K_b.out hb (by first | omega | (simp; done) | (simp; omega)))
  replace K_c := Lib.hid (blk_below K_c.out hb (by first | omega | (simp; done) | (simp; omega)))
  clear hb
  have c_a_0 := blk_cell K_a.out 0; simp at c_a_0
  have c_a_1 := blk_cell K_a.out 1; simp at c_a_1
  have c_c_0 := blk_cell K_c.out 0; simp at c_c_0
  have c_c_1 := blk_cell K_c.out 1; simp at c_c_1
  go_wp2_with fail
  refine (less_any _ _ _ _ _).mono ?_; rintro e w5 ⟨rfl, hb⟩
  clear c_a_0 c_a_1
  clear c_c_0 c_c_1
  have z5 := hb.size
  replace B := below_after B hb (by first | omega | (simp; done) | (simp; omega))
  replace K_a := Lib.hid (blk_below K_a.out hb (by first | omega | (simp; done) | (simp; omega)))
  replace K_b := Lib.hid (blk_below K_b.out hb (by first | omega | (simp; done) | (simp; omega)))
  replace K_c := Lib.hid (blk_below K_c.out hb (by first | omega | (simp; done) | (simp; omega)))
  clear hb
  go_wp2
  all_goals (go_ret; exact ⟨by simp, B⟩)
end Go.Proofs.Ytaaoekddhgjckaa
