/- The walks of RationalOrder (layer 7). -/
import Derived.Test.YtaaoekddhgjckaaRatSane
import Derived.Test.YtaaoekddhgjckaaRatOrderM
namespace Go.Proofs.Ytaaoekddhgjckaa
open Go.ChangeShapes Go.WideShapes Go.ChangeAt Go.RowKit

set_option maxRecDepth 100000 in
set_option maxHeartbeats 4000000 in
theorem rationalOrder_lt1_tt_ttf (an ad bn bd cn cd : Int) (va : Valid an ad) (vb : Valid bn bd) (vc : Valid cn cd) (hab : lessV an ad bn bd = true) (hba : lessV bn bd an ad = false) (hbc : lessV bn bd cn cd = true) (hac : lessV an ad cn cd = true) (hne : ¬ an = bn) (hi : addE an ad cn cd = 0) (hj : addE bn bd cn cd = 0) (hmi : mulE an ad cn cd = 0) (hmj : mulE bn bd cn cd = 0) (hp : cn ≤ 0) (w : World) :
    Calls Try.prog 8 #[.agg #[.int .i64 an, .int .i64 ad], .agg #[.int .i64 bn, .int .i64 bd], .agg #[.int .i64 cn, .int .i64 cd]] w fun e w' => e = .returned (.bool true) ∧ Below w.heap.size w w' := by
  have e1 : lessE an ad bn bd = 0 := if_pos ⟨va, vb⟩
  have e2 : lessE bn bd an ad = 0 := if_pos ⟨vb, va⟩
  have e3 : lessE bn bd cn cd = 0 := if_pos ⟨vb, vc⟩
  have e4 : lessE an ad cn cd = 0 := if_pos ⟨va, vc⟩
  have ti : (addE an ad cn cd == 0) = true := by simpa using hi
  have ui : (addE an ad cn cd != 0) = false := by simpa using hi
  have tj : (addE bn bd cn cd == 0) = true := by simpa using hj
  have uj : (addE bn bd cn cd != 0) = false := by simpa using hj
  have tmi : (mulE an ad cn cd == 0) = true := by simpa using hmi
  have umi : (mulE an ad cn cd != 0) = false := by simpa using hmi
  have tmj : (mulE bn bd cn cd == 0) = true := by simpa using hmj
  have umj : (mulE bn bd cn cd != 0) = false := by simpa using hmj
  obtain ⟨s1, s2⟩ := less_add va vb vc hi hj
  rw [hab] at s1
  clear va vc vb hi hj hmi hmj
  have B := Below.refl w.heap.size w
  go_enter Try.func8, Try.ntmps8
  go_wp2_with fail
  refine (sane_any _).mono ?_; rintro e w1 ⟨rfl, hb⟩
  have z1 := hb.size; simp at z1
  replace B := below_after (((B.alloc (by first | omega | (simp; done) | (simp; omega)) _).alloc (by first | omega | (simp; done) | (simp; omega)) _).alloc (by first | omega | (simp; done) | (simp; omega)) _) hb (by first | omega | (simp; done) | (simp; omega))
  have K_a := blk_below (blk_alloc (blk_alloc (blk_new _ _) _) _) hb (by first | omega | (simp; done) | (simp; omega))
  replace K_a := Lib.hid K_a
  have K_b := blk_below (blk_alloc (blk_new _ _) _) hb (by first | omega | (simp; done) | (simp; omega))
  rw [World.size_alloc] at K_b
  replace K_b := Lib.hid K_b
  have K_c := blk_below (blk_new _ _) hb (by first | omega | (simp; done) | (simp; omega))
  rw [World.size_alloc, World.size_alloc] at K_c
  replace K_c := Lib.hid K_c
  clear hb
  have c_a_0 := blk_cell K_a.out 0; simp at c_a_0
  have c_a_1 := blk_cell K_a.out 1; simp at c_a_1
  have c_b_0 := blk_cell K_b.out 0; simp at c_b_0
  have c_b_1 := blk_cell K_b.out 1; simp at c_b_1
  go_wp2_with fail
  refine (less_any _ _ _ _ _).mono ?_; rintro e w2 ⟨rfl, hb⟩
  rw [e1]
  clear c_a_0 c_a_1
  clear c_b_0 c_b_1
  have z2 := hb.size
  replace B := below_after B hb (by first | omega | (simp; done) | (simp; omega))
  replace K_a := Lib.hid (blk_below K_a.out hb (by first | omega | (simp; done) | (simp; omega)))
  replace K_b := Lib.hid (blk_below K_b.out hb (by first | omega | (simp; done) | (simp; omega)))
  replace K_c := Lib.hid (blk_below K_c.out hb (by first | omega | (simp; done) | (simp; omega)))
  clear hb
  have c_b_0 := blk_cell K_b.out 0; simp at c_b_0
  have c_b_1 := blk_cell K_b.out 1; simp at c_b_1
  have c_a_0 := blk_cell K_a.out 0; simp at c_a_0
  have c_a_1 := blk_cell K_a.out 1; simp at c_a_1
  go_wp2_with fail
  refine (less_any _ _ _ _ _).mono ?_; rintro e w3 ⟨rfl, hb⟩
  rw [e2]
  clear c_b_0 c_b_1
  clear c_a_0 c_a_1
  have z3 := hb.size
  replace B := below_after B hb (by first | omega | (simp; done) | (simp; omega))
  replace K_a := Lib.hid (blk_below K_a.out hb (by first | omega | (simp; done) | (simp; omega)))
  replace K_b := Lib.hid (blk_below K_b.out hb (by first | omega | (simp; done) | (simp; omega)))
  replace K_c := Lib.hid (blk_below K_c.out hb (by first | omega | (simp; done) | (simp; omega)))
  clear hb
  have c_b_0 := blk_cell K_b.out 0; simp at c_b_0
  have c_b_1 := blk_cell K_b.out 1; simp at c_b_1
  have c_c_0 := blk_cell K_c.out 0; simp at c_c_0
  have c_c_1 := blk_cell K_c.out 1; simp at c_c_1
  go_wp2_with fail
  refine (less_any _ _ _ _ _).mono ?_; rintro e w4 ⟨rfl, hb⟩
  rw [e3]
  clear c_b_0 c_b_1
  clear c_c_0 c_c_1
  have z4 := hb.size
  replace B := below_after B hb (by first | omega | (simp; done) | (simp; omega))
  replace K_a := Lib.hid (blk_below K_a.out hb (by first | omega | (simp; done) | (simp; omega)))
  replace K_b := Lib.hid (blk_below K_b.out hb (by first | omega | (simp; done) | (simp; omega)))
  replace K_c := Lib.hid (blk_below K_c.out hb (by first | omega | (simp; done) | (simp; omega)))
  clear hb
  have c_a_0 := blk_cell K_a.out 0; simp at c_a_0
  have c_a_1 := blk_cell K_a.out 1; simp at c_a_1
  have c_c_0 := blk_cell K_c.out 0; simp at c_c_0
  have c_c_1 := blk_cell K_c.out 1; simp at c_c_1
  go_wp2_with fail
  refine (less_any _ _ _ _ _).mono ?_; rintro e w5 ⟨rfl, hb⟩
  rw [e4]
  clear c_a_0 c_a_1
  clear c_c_0 c_c_1
  have z5 := hb.size
  replace B := below_after B hb (by first | omega | (simp; done) | (simp; omega))
  replace K_a := Lib.hid (blk_below K_a.out hb (by first | omega | (simp; done) | (simp; omega)))
  replace K_b := Lib.hid (blk_below K_b.out hb (by first | omega | (simp; done) | (simp; omega)))
  replace K_c := Lib.hid (blk_below K_c.out hb (by first | omega | (simp; done) | (simp; omega)))
  clear hb
  have c_a_0 := blk_cell K_a.out 0; simp at c_a_0
  have c_a_1 := blk_cell K_a.out 1; simp at c_a_1
  have c_b_0 := blk_cell K_b.out 0; simp at c_b_0
  have c_b_1 := blk_cell K_b.out 1; simp at c_b_1
  have c_c_0 := blk_cell K_c.out 0; simp at c_c_0
  have c_c_1 := blk_cell K_c.out 1; simp at c_c_1
  go_wp2_with fail
  refine (add_any _ _ _ _ _).mono ?_; rintro e w6 ⟨rfl, hb⟩
  clear c_c_0 c_c_1
  have z6 := hb.size
  replace B := below_after B hb (by first | omega | (simp; done) | (simp; omega))
  replace K_a := Lib.hid (blk_below K_a.out hb (by first | omega | (simp; done) | (simp; omega)))
  replace K_b := Lib.hid (blk_below K_b.out hb (by first | omega | (simp; done) | (simp; omega)))
  replace K_c := Lib.hid (blk_below K_c.out hb (by first | omega | (simp; done) | (simp; omega)))
  clear hb
  clear c_a_0 c_a_1 c_b_0 c_b_1
  have l_b : w.heap.size + 1 < w6.heap.size := by omega
  have c_b_0 := blk_cell K_b.out 0; simp at c_b_0
  have c_b_1 := blk_cell K_b.out 1; simp at c_b_1
  have l_c : w.heap.size + 1 + 1 < w6.heap.size := by omega
  have c_c_0 := blk_cell K_c.out 0; simp at c_c_0
  have c_c_1 := blk_cell K_c.out 1; simp at c_c_1
  go_wp2_with fail
  refine (add_any _ _ _ _ _).mono ?_; rintro e w7 ⟨rfl, hb⟩
  clear c_b_0 c_b_1 l_b
  clear c_c_0 c_c_1 l_c
  have z7 := hb.size; simp at z7
  replace B := below_after (B.alloc (by first | omega | (simp; done) | (simp; omega)) _) hb (by first | omega | (simp; done) | (simp; omega))
  replace K_a := Lib.hid (blk_below (blk_alloc K_a.out _) hb (by first | omega | (simp; done) | (simp; omega)))
  replace K_b := Lib.hid (blk_below (blk_alloc K_b.out _) hb (by first | omega | (simp; done) | (simp; omega)))
  replace K_c := Lib.hid (blk_below (blk_alloc K_c.out _) hb (by first | omega | (simp; done) | (simp; omega)))
  have K_x := blk_below (blk_new _ _) hb (by first | omega | (simp; done) | (simp; omega))
  replace K_x := Lib.hid K_x
  clear hb
  have l_x : w6.heap.size < w7.heap.size := by omega
  have c_x_0 := blk_cell K_x.out 0; simp at c_x_0
  have c_x_1 := blk_cell K_x.out 1; simp at c_x_1
  go_wp2_with fail
  refine (less_any _ _ _ _ _).mono ?_; rintro e w8 ⟨rfl, hb⟩
  rw [s1, s2]
  clear c_x_0 c_x_1 l_x
  have z8 := hb.size; simp at z8
  replace B := below_after (B.alloc (by first | omega | (simp; done) | (simp; omega)) _) hb (by first | omega | (simp; done) | (simp; omega))
  replace K_a := Lib.hid (blk_below (blk_alloc K_a.out _) hb (by first | omega | (simp; done) | (simp; omega)))
  replace K_b := Lib.hid (blk_below (blk_alloc K_b.out _) hb (by first | omega | (simp; done) | (simp; omega)))
  replace K_c := Lib.hid (blk_below (blk_alloc K_c.out _) hb (by first | omega | (simp; done) | (simp; omega)))
  replace K_x := Lib.hid (blk_below (blk_alloc K_x.out _) hb (by first | omega | (simp; done) | (simp; omega)))
  have K_y := blk_below (blk_new _ _) hb (by first | omega | (simp; done) | (simp; omega))
  replace K_y := Lib.hid K_y
  clear hb
  have c_a_0 := blk_cell K_a.out 0; simp at c_a_0
  have c_a_1 := blk_cell K_a.out 1; simp at c_a_1
  have c_c_0 := blk_cell K_c.out 0; simp at c_c_0
  have c_c_1 := blk_cell K_c.out 1; simp at c_c_1
  go_wp2_with fail
  refine (mul_any _ _ _ _ _).mono ?_; rintro e w9 ⟨rfl, hb⟩
  clear c_a_0 c_a_1
  clear c_c_0 c_c_1
  have z9 := hb.size
  replace B := below_after B hb (by first | omega | (simp; done) | (simp; omega))
  replace K_a := Lib.hid (blk_below K_a.out hb (by first | omega | (simp; done) | (simp; omega)))
  replace K_b := Lib.hid (blk_below K_b.out hb (by first | omega | (simp; done) | (simp; omega)))
  replace K_c := Lib.hid (blk_below K_c.out hb (by first | omega | (simp; done) | (simp; omega)))
  replace K_x := Lib.hid (blk_below K_x.out hb (by first | omega | (simp; done) | (simp; omega)))
  replace K_y := Lib.hid (blk_below K_y.out hb (by first | omega | (simp; done) | (simp; omega)))
  clear hb
  have l_b : w.heap.size + 1 < w9.heap.size := by omega
  have c_b_0 := blk_cell K_b.out 0; simp at c_b_0
  have c_b_1 := blk_cell K_b.out 1; simp at c_b_1
  have l_c : w.heap.size + 1 + 1 < w9.heap.size := by omega
  have c_c_0 := blk_cell K_c.out 0; simp at c_c_0
  have c_c_1 := blk_cell K_c.out 1; simp at c_c_1
  go_wp2_with fail
  refine (mul_any _ _ _ _ _).mono ?_; rintro e w10 ⟨rfl, hb⟩
  clear c_b_0 c_b_1 l_b
  clear c_c_0 c_c_1 l_c
  have z10 := hb.size; simp at z10
  replace B := below_after (B.alloc (by first | omega | (simp; done) | (simp; omega)) _) hb (by first | omega | (simp; done) | (simp; omega))
  replace K_a := Lib.hid (blk_below (blk_alloc K_a.out _) hb (by first | omega | (simp; done) | (simp; omega)))
  replace K_b := Lib.hid (blk_below (blk_alloc K_b.out _) hb (by first | omega | (simp; done) | (simp; omega)))
  replace K_c := Lib.hid (blk_below (blk_alloc K_c.out _) hb (by first | omega | (simp; done) | (simp; omega)))
  replace K_x := Lib.hid (blk_below (blk_alloc K_x.out _) hb (by first | omega | (simp; done) | (simp; omega)))
  replace K_y := Lib.hid (blk_below (blk_alloc K_y.out _) hb (by first | omega | (simp; done) | (simp; omega)))
  have K_p := blk_below (blk_new _ _) hb (by first | omega | (simp; done) | (simp; omega))
  replace K_p := Lib.hid K_p
  clear hb
  have l_c : w.heap.size + 1 + 1 < w10.heap.size := by omega
  have c_c_0 := blk_cell K_c.out 0; simp at c_c_0
  have c_c_1 := blk_cell K_c.out 1; simp at c_c_1
  go_wp2
  go_ret
  exact ⟨by simp, B.alloc (by first | omega | (simp; done) | (simp; omega)) _⟩

set_option maxRecDepth 100000 in
set_option maxHeartbeats 4000000 in
theorem rationalOrder_lt1_tt_fnn (an ad bn bd cn cd : Int) (va : Valid an ad) (vb : Valid bn bd) (vc : Valid cn cd) (hab : lessV an ad bn bd = true) (hba : lessV bn bd an ad = false) (hbc : lessV bn bd cn cd = true) (hac : lessV an ad cn cd = true) (hne : ¬ an = bn) (hi : addE an ad cn cd = 0) (hj : addE bn bd cn cd = 0) (hmi : mulE an ad cn cd ≠ 0) (w : World) :
    Calls Try.prog 8 #[.agg #[.int .i64 an, .int .i64 ad], .agg #[.int .i64 bn, .int .i64 bd], .agg #[.int .i64 cn, .int .i64 cd]] w fun e w' => e = .returned (.bool true) ∧ Below w.heap.size w w' := by
  have e1 : lessE an ad bn bd = 0 := if_pos ⟨va, vb⟩
  have e2 : lessE bn bd an ad = 0 := if_pos ⟨vb, va⟩
  have e3 : lessE bn bd cn cd = 0 := if_pos ⟨vb, vc⟩
  have e4 : lessE an ad cn cd = 0 := if_pos ⟨va, vc⟩
  have ti : (addE an ad cn cd == 0) = true := by simpa using hi
  have ui : (addE an ad cn cd != 0) = false := by simpa using hi
  have tj : (addE bn bd cn cd == 0) = true := by simpa using hj
  have uj : (addE bn bd cn cd != 0) = false := by simpa using hj
  have tmi : (mulE an ad cn cd == 0) = false := by simpa using hmi
  have umi : (mulE an ad cn cd != 0) = true := by simpa using hmi
  obtain ⟨s1, s2⟩ := less_add va vb vc hi hj
  rw [hab] at s1
  clear va vc vb hi hj hmi
  have B := Below.refl w.heap.size w
  go_enter Try.func8, Try.ntmps8
  go_wp2_with fail
  refine (sane_any _).mono ?_; rintro e w1 ⟨rfl, hb⟩
  have z1 := hb.size; simp at z1
  replace B := below_after (((B.alloc (by first | omega | (simp; done) | (simp; omega)) _).alloc (by first | omega | (simp; done) | (simp; omega)) _).alloc (by first | omega | (simp; done) | (simp; omega)) _) hb (by first | omega | (simp; done) | (simp; omega))
  have K_a := blk_below (blk_alloc (blk_alloc (blk_new _ _) _) _) hb (by first | omega | (simp; done) | (simp; omega))
  replace K_a := Lib.hid K_a
  have K_b := blk_below (blk_alloc (blk_new _ _) _) hb (by first | omega | (simp; done) | (simp; omega))
  rw [World.size_alloc] at K_b
  replace K_b := Lib.hid K_b
  have K_c := blk_below (blk_new _ _) hb (by first | omega | (simp; done) | (simp; omega))
  rw [World.size_alloc, World.size_alloc] at K_c
  replace K_c := Lib.hid K_c
  clear hb
  have c_a_0 := blk_cell K_a.out 0; simp at c_a_0
  have c_a_1 := blk_cell K_a.out 1; simp at c_a_1
  have c_b_0 := blk_cell K_b.out 0; simp at c_b_0
  have c_b_1 := blk_cell K_b.out 1; simp at c_b_1
  go_wp2_with fail
  refine (less_any _ _ _ _ _).mono ?_; rintro e w2 ⟨rfl, hb⟩
  rw [e1]
  clear c_a_0 c_a_1
  clear c_b_0 c_b_1
  have z2 := hb.size
  replace B := below_after B hb (by first | omega | (simp; done) | (simp; omega))
  replace K_a := Lib.hid (blk_below K_a.out hb (by first | omega | (simp; done) | (simp; omega)))
  replace K_b := Lib.hid (blk_below K_b.out hb (by first | omega | (simp; done) | (simp; omega)))
  replace K_c := Lib.hid (blk_below K_c.out hb (by first | omega | (simp; done) | (simp; omega)))
  clear hb
  have c_b_0 := blk_cell K_b.out 0; simp at c_b_0
  have c_b_1 := blk_cell K_b.out 1; simp at c_b_1
  have c_a_0 := blk_cell K_a.out 0; simp at c_a_0
  have c_a_1 := blk_cell K_a.out 1; simp at c_a_1
  go_wp2_with fail
  refine (less_any _ _ _ _ _).mono ?_; rintro e w3 ⟨rfl, hb⟩
  rw [e2]
  clear c_b_0 c_b_1
  clear c_a_0 c_a_1
  have z3 := hb.size
  replace B := below_after B hb (by first | omega | (simp; done) | (simp; omega))
  replace K_a := Lib.hid (blk_below K_a.out hb (by first | omega | (simp; done) | (simp; omega)))
  replace K_b := Lib.hid (blk_below K_b.out hb (by first | omega | (simp; done) | (simp; omega)))
  replace K_c := Lib.hid (blk_below K_c.out hb (by first | omega | (simp; done) | (simp; omega)))
  clear hb
  have c_b_0 := blk_cell K_b.out 0; simp at c_b_0
  have c_b_1 := blk_cell K_b.out 1; simp at c_b_1
  have c_c_0 := blk_cell K_c.out 0; simp at c_c_0
  have c_c_1 := blk_cell K_c.out 1; simp at c_c_1
  go_wp2_with fail
  refine (less_any _ _ _ _ _).mono ?_; rintro e w4 ⟨rfl, hb⟩
  rw [e3]
  clear c_b_0 c_b_1
  clear c_c_0 c_c_1
  have z4 := hb.size
  replace B := below_after B hb (by first | omega | (simp; done) | (simp; omega))
  replace K_a := Lib.hid (blk_below K_a.out hb (by first | omega | (simp; done) | (simp; omega)))
  replace K_b := Lib.hid (blk_below K_b.out hb (by first | omega | (simp; done) | (simp; omega)))
  replace K_c := Lib.hid (blk_below K_c.out hb (by first | omega | (simp; done) | (simp; omega)))
  clear hb
  have c_a_0 := blk_cell K_a.out 0; simp at c_a_0
  have c_a_1 := blk_cell K_a.out 1; simp at c_a_1
  have c_c_0 := blk_cell K_c.out 0; simp at c_c_0
  have c_c_1 := blk_cell K_c.out 1; simp at c_c_1
  go_wp2_with fail
  refine (less_any _ _ _ _ _).mono ?_; rintro e w5 ⟨rfl, hb⟩
  rw [e4]
  clear c_a_0 c_a_1
  clear c_c_0 c_c_1
  have z5 := hb.size
  replace B := below_after B hb (by first | omega | (simp; done) | (simp; omega))
  replace K_a := Lib.hid (blk_below K_a.out hb (by first | omega | (simp; done) | (simp; omega)))
  replace K_b := Lib.hid (blk_below K_b.out hb (by first | omega | (simp; done) | (simp; omega)))
  replace K_c := Lib.hid (blk_below K_c.out hb (by first | omega | (simp; done) | (simp; omega)))
  clear hb
  have c_a_0 := blk_cell K_a.out 0; simp at c_a_0
  have c_a_1 := blk_cell K_a.out 1; simp at c_a_1
  have c_b_0 := blk_cell K_b.out 0; simp at c_b_0
  have c_b_1 := blk_cell K_b.out 1; simp at c_b_1
  have c_c_0 := blk_cell K_c.out 0; simp at c_c_0
  have c_c_1 := blk_cell K_c.out 1; simp at c_c_1
  go_wp2_with fail
  refine (add_any _ _ _ _ _).mono ?_; rintro e w6 ⟨rfl, hb⟩
  clear c_c_0 c_c_1
  have z6 := hb.size
  replace B := below_after B hb (by first | omega | (simp; done) | (simp; omega))
  replace K_a := Lib.hid (blk_below K_a.out hb (by first | omega | (simp; done) | (simp; omega)))
  replace K_b := Lib.hid (blk_below K_b.out hb (by first | omega | (simp; done) | (simp; omega)))
  replace K_c := Lib.hid (blk_below K_c.out hb (by first | omega | (simp; done) | (simp; omega)))
  clear hb
  clear c_a_0 c_a_1 c_b_0 c_b_1
  have l_b : w.heap.size + 1 < w6.heap.size := by omega
  have c_b_0 := blk_cell K_b.out 0; simp at c_b_0
  have c_b_1 := blk_cell K_b.out 1; simp at c_b_1
  have l_c : w.heap.size + 1 + 1 < w6.heap.size := by omega
  have c_c_0 := blk_cell K_c.out 0; simp at c_c_0
  have c_c_1 := blk_cell K_c.out 1; simp at c_c_1
  go_wp2_with fail
  refine (add_any _ _ _ _ _).mono ?_; rintro e w7 ⟨rfl, hb⟩
  clear c_b_0 c_b_1 l_b
  clear c_c_0 c_c_1 l_c
  have z7 := hb.size; simp at z7
  replace B := below_after (B.alloc (by first | omega | (simp; done) | (simp; omega)) _) hb (by first | omega | (simp; done) | (simp; omega))
  replace K_a := Lib.hid (blk_below (blk_alloc K_a.out _) hb (by first | omega | (simp; done) | (simp; omega)))
  replace K_b := Lib.hid (blk_below (blk_alloc K_b.out _) hb (by first | omega | (simp; done) | (simp; omega)))
  replace K_c := Lib.hid (blk_below (blk_alloc K_c.out _) hb (by first | omega | (simp; done) | (simp; omega)))
  have K_x := blk_below (blk_new _ _) hb (by first | omega | (simp; done) | (simp; omega))
  replace K_x := Lib.hid K_x
  clear hb
  have l_x : w6.heap.size < w7.heap.size := by omega
  have c_x_0 := blk_cell K_x.out 0; simp at c_x_0
  have c_x_1 := blk_cell K_x.out 1; simp at c_x_1
  go_wp2_with fail
  refine (less_any _ _ _ _ _).mono ?_; rintro e w8 ⟨rfl, hb⟩
  rw [s1, s2]
  clear c_x_0 c_x_1 l_x
  have z8 := hb.size; simp at z8
  replace B := below_after (B.alloc (by first | omega | (simp; done) | (simp; omega)) _) hb (by first | omega | (simp; done) | (simp; omega))
  replace K_a := Lib.hid (blk_below (blk_alloc K_a.out _) hb (by first | omega | (simp; done) | (simp; omega)))
  replace K_b := Lib.hid (blk_below (blk_alloc K_b.out _) hb (by first | omega | (simp; done) | (simp; omega)))
  replace K_c := Lib.hid (blk_below (blk_alloc K_c.out _) hb (by first | omega | (simp; done) | (simp; omega)))
  replace K_x := Lib.hid (blk_below (blk_alloc K_x.out _) hb (by first | omega | (simp; done) | (simp; omega)))
  have K_y := blk_below (blk_new _ _) hb (by first | omega | (simp; done) | (simp; omega))
  replace K_y := Lib.hid K_y
  clear hb
  have c_a_0 := blk_cell K_a.out 0; simp at c_a_0
  have c_a_1 := blk_cell K_a.out 1; simp at c_a_1
  have c_c_0 := blk_cell K_c.out 0; simp at c_c_0
  have c_c_1 := blk_cell K_c.out 1; simp at c_c_1
  go_wp2_with fail
  refine (mul_any _ _ _ _ _).mono ?_; rintro e w9 ⟨rfl, hb⟩
  clear c_a_0 c_a_1
  clear c_c_0 c_c_1
  have z9 := hb.size
  replace B := below_after B hb (by first | omega | (simp; done) | (simp; omega))
  replace K_a := Lib.hid (blk_below K_a.out hb (by first | omega | (simp; done) | (simp; omega)))
  replace K_b := Lib.hid (blk_below K_b.out hb (by first | omega | (simp; done) | (simp; omega)))
  replace K_c := Lib.hid (blk_below K_c.out hb (by first | omega | (simp; done) | (simp; omega)))
  replace K_x := Lib.hid (blk_below K_x.out hb (by first | omega | (simp; done) | (simp; omega)))
  replace K_y := Lib.hid (blk_below K_y.out hb (by first | omega | (simp; done) | (simp; omega)))
  clear hb
  have l_b : w.heap.size + 1 < w9.heap.size := by omega
  have c_b_0 := blk_cell K_b.out 0; simp at c_b_0
  have c_b_1 := blk_cell K_b.out 1; simp at c_b_1
  have l_c : w.heap.size + 1 + 1 < w9.heap.size := by omega
  have c_c_0 := blk_cell K_c.out 0; simp at c_c_0
  have c_c_1 := blk_cell K_c.out 1; simp at c_c_1
  go_wp2_with fail
  refine (mul_any _ _ _ _ _).mono ?_; rintro e w10 ⟨rfl, hb⟩
  clear c_b_0 c_b_1 l_b
  clear c_c_0 c_c_1 l_c
  have z10 := hb.size; simp at z10
  replace B := below_after (B.alloc (by first | omega | (simp; done) | (simp; omega)) _) hb (by first | omega | (simp; done) | (simp; omega))
  replace K_a := Lib.hid (blk_below (blk_alloc K_a.out _) hb (by first | omega | (simp; done) | (simp; omega)))
  replace K_b := Lib.hid (blk_below (blk_alloc K_b.out _) hb (by first | omega | (simp; done) | (simp; omega)))
  replace K_c := Lib.hid (blk_below (blk_alloc K_c.out _) hb (by first | omega | (simp; done) | (simp; omega)))
  replace K_x := Lib.hid (blk_below (blk_alloc K_x.out _) hb (by first | omega | (simp; done) | (simp; omega)))
  replace K_y := Lib.hid (blk_below (blk_alloc K_y.out _) hb (by first | omega | (simp; done) | (simp; omega)))
  have K_p := blk_below (blk_new _ _) hb (by first | omega | (simp; done) | (simp; omega))
  replace K_p := Lib.hid K_p
  clear hb
  go_wp2
  go_ret
  exact ⟨by simp, B.alloc (by first | omega | (simp; done) | (simp; omega)) _⟩

set_option maxRecDepth 100000 in
set_option maxHeartbeats 4000000 in
theorem rationalOrder_lt1_tf_ttf (an ad bn bd cn cd : Int) (va : Valid an ad) (vb : Valid bn bd) (vc : Valid cn cd) (hab : lessV an ad bn bd = true) (hba : lessV bn bd an ad = false) (hbc : lessV bn bd cn cd = true) (hac : lessV an ad cn cd = true) (hne : ¬ an = bn) (hi : addE an ad cn cd = 0) (hj : addE bn bd cn cd ≠ 0) (hmi : mulE an ad cn cd = 0) (hmj : mulE bn bd cn cd = 0) (hp : cn ≤ 0) (w : World) :
    Calls Try.prog 8 #[.agg #[.int .i64 an, .int .i64 ad], .agg #[.int .i64 bn, .int .i64 bd], .agg #[.int .i64 cn, .int .i64 cd]] w fun e w' => e = .returned (.bool true) ∧ Below w.heap.size w w' := by
  have e1 : lessE an ad bn bd = 0 := if_pos ⟨va, vb⟩
  have e2 : lessE bn bd an ad = 0 := if_pos ⟨vb, va⟩
  have e3 : lessE bn bd cn cd = 0 := if_pos ⟨vb, vc⟩
  have e4 : lessE an ad cn cd = 0 := if_pos ⟨va, vc⟩
  have ti : (addE an ad cn cd == 0) = true := by simpa using hi
  have ui : (addE an ad cn cd != 0) = false := by simpa using hi
  have tj : (addE bn bd cn cd == 0) = false := by simpa using hj
  have uj : (addE bn bd cn cd != 0) = true := by simpa using hj
  have tmi : (mulE an ad cn cd == 0) = true := by simpa using hmi
  have umi : (mulE an ad cn cd != 0) = false := by simpa using hmi
  have tmj : (mulE bn bd cn cd == 0) = true := by simpa using hmj
  have umj : (mulE bn bd cn cd != 0) = false := by simpa using hmj
  clear va vc vb hi hj hmi hmj
  have B := Below.refl w.heap.size w
  go_enter Try.func8, Try.ntmps8
  go_wp2_with fail
  refine (sane_any _).mono ?_; rintro e w1 ⟨rfl, hb⟩
  have z1 := hb.size; simp at z1
  replace B := below_after (((B.alloc (by first | omega | (simp; done) | (simp; omega)) _).alloc (by first | omega | (simp; done) | (simp; omega)) _).alloc (by first | omega | (simp; done) | (simp; omega)) _) hb (by first | omega | (simp; done) | (simp; omega))
  have K_a := blk_below (blk_alloc (blk_alloc (blk_new _ _) _) _) hb (by first | omega | (simp; done) | (simp; omega))
  replace K_a := Lib.hid K_a
  have K_b := blk_below (blk_alloc (blk_new _ _) _) hb (by first | omega | (simp; done) | (simp; omega))
  rw [World.size_alloc] at K_b
  replace K_b := Lib.hid K_b
  have K_c := blk_below (blk_new _ _) hb (by first | omega | (simp; done) | (simp; omega))
  rw [World.size_alloc, World.size_alloc] at K_c
  replace K_c := Lib.hid K_c
  clear hb
  have c_a_0 := blk_cell K_a.out 0; simp at c_a_0
  have c_a_1 := blk_cell K_a.out 1; simp at c_a_1
  have c_b_0 := blk_cell K_b.out 0; simp at c_b_0
  have c_b_1 := blk_cell K_b.out 1; simp at c_b_1
  go_wp2_with fail
  refine (less_any _ _ _ _ _).mono ?_; rintro e w2 ⟨rfl, hb⟩
  rw [e1]
  clear c_a_0 c_a_1
  clear c_b_0 c_b_1
  have z2 := hb.size
  replace B := below_after B hb (by first | omega | (simp; done) | (simp; omega))
  replace K_a := Lib.hid (blk_below K_a.out hb (by first | omega | (simp; done) | (simp; omega)))
  replace K_b := Lib.hid (blk_below K_b.out hb (by first | omega | (simp; done) | (simp; omega)))
  replace K_c := Lib.hid (blk_below K_c.out hb (by first | omega | (simp; done) | (simp; omega)))
  clear hb
  have c_b_0 := blk_cell K_b.out 0; simp at c_b_0
  have c_b_1 := blk_cell K_b.out 1; simp at c_b_1
  have c_a_0 := blk_cell K_a.out 0; simp at c_a_0
  have c_a_1 := blk_cell K_a.out 1; simp at c_a_1
  go_wp2_with fail
  refine (less_any _ _ _ _ _).mono ?_; rintro e w3 ⟨rfl, hb⟩
  rw [e2]
  clear c_b_0 c_b_1
  clear c_a_0 c_a_1
  have z3 := hb.size
  replace B := below_after B hb (by first | omega | (simp; done) | (simp; omega))
  replace K_a := Lib.hid (blk_below K_a.out hb (by first | omega | (simp; done) | (simp; omega)))
  replace K_b := Lib.hid (blk_below K_b.out hb (by first | omega | (simp; done) | (simp; omega)))
  replace K_c := Lib.hid (blk_below K_c.out hb (by first | omega | (simp; done) | (simp; omega)))
  clear hb
  have c_b_0 := blk_cell K_b.out 0; simp at c_b_0
  have c_b_1 := blk_cell K_b.out 1; simp at c_b_1
  have c_c_0 := blk_cell K_c.out 0; simp at c_c_0
  have c_c_1 := blk_cell K_c.out 1; simp at c_c_1
  go_wp2_with fail
  refine (less_any _ _ _ _ _).mono ?_; rintro e w4 ⟨rfl, hb⟩
  rw [e3]
  clear c_b_0 c_b_1
  clear c_c_0 c_c_1
  have z4 := hb.size
  replace B := below_after B hb (by first | omega | (simp; done) | (simp; omega))
  replace K_a := Lib.hid (blk_below K_a.out hb (by first | omega | (simp; done) | (simp; omega)))
  replace K_b := Lib.hid (blk_below K_b.out hb (by first | omega | (simp; done) | (simp; omega)))
  replace K_c := Lib.hid (blk_below K_c.out hb (by first | omega | (simp; done) | (simp; omega)))
  clear hb
  have c_a_0 := blk_cell K_a.out 0; simp at c_a_0
  have c_a_1 := blk_cell K_a.out 1; simp at c_a_1
  have c_c_0 := blk_cell K_c.out 0; simp at c_c_0
  have c_c_1 := blk_cell K_c.out 1; simp at c_c_1
  go_wp2_with fail
  refine (less_any _ _ _ _ _).mono ?_; rintro e w5 ⟨rfl, hb⟩
  rw [e4]
  clear c_a_0 c_a_1
  clear c_c_0 c_c_1
  have z5 := hb.size
  replace B := below_after B hb (by first | omega | (simp; done) | (simp; omega))
  replace K_a := Lib.hid (blk_below K_a.out hb (by first | omega | (simp; done) | (simp; omega)))
  replace K_b := Lib.hid (blk_below K_b.out hb (by first | omega | (simp; done) | (simp; omega)))
  replace K_c := Lib.hid (blk_below K_c.out hb (by first | omega | (simp; done) | (simp; omega)))
  clear hb
  have c_a_0 := blk_cell K_a.out 0; simp at c_a_0
  have c_a_1 := blk_cell K_a.out 1; simp at c_a_1
  have c_b_0 := blk_cell K_b.out 0; simp at c_b_0
  have c_b_1 := blk_cell K_b.out 1; simp at c_b_1
  have c_c_0 := blk_cell K_c.out 0; simp at c_c_0
  have c_c_1 := blk_cell K_c.out 1; simp at c_c_1
  go_wp2_with fail
  refine (add_any _ _ _ _ _).mono ?_; rintro e w6 ⟨rfl, hb⟩
  clear c_c_0 c_c_1
  have z6 := hb.size
  replace B := below_after B hb (by first | omega | (simp; done) | (simp; omega))
  replace K_a := Lib.hid (blk_below K_a.out hb (by first | omega | (simp; done) | (simp; omega)))
  replace K_b := Lib.hid (blk_below K_b.out hb (by first | omega | (simp; done) | (simp; omega)))
  replace K_c := Lib.hid (blk_below K_c.out hb (by first | omega | (simp; done) | (simp; omega)))
  clear hb
  clear c_a_0 c_a_1 c_b_0 c_b_1
  have l_b : w.heap.size + 1 < w6.heap.size := by omega
  have c_b_0 := blk_cell K_b.out 0; simp at c_b_0
  have c_b_1 := blk_cell K_b.out 1; simp at c_b_1
  have l_c : w.heap.size + 1 + 1 < w6.heap.size := by omega
  have c_c_0 := blk_cell K_c.out 0; simp at c_c_0
  have c_c_1 := blk_cell K_c.out 1; simp at c_c_1
  go_wp2_with fail
  refine (add_any _ _ _ _ _).mono ?_; rintro e w7 ⟨rfl, hb⟩
  clear c_b_0 c_b_1 l_b
  clear c_c_0 c_c_1 l_c
  have z7 := hb.size; simp at z7
  replace B := below_after (B.alloc (by first | omega | (simp; done) | (simp; omega)) _) hb (by first | omega | (simp; done) | (simp; omega))
  replace K_a := Lib.hid (blk_below (blk_alloc K_a.out _) hb (by first | omega | (simp; done) | (simp; omega)))
  replace K_b := Lib.hid (blk_below (blk_alloc K_b.out _) hb (by first | omega | (simp; done) | (simp; omega)))
  replace K_c := Lib.hid (blk_below (blk_alloc K_c.out _) hb (by first | omega | (simp; done) | (simp; omega)))
  have K_x := blk_below (blk_new _ _) hb (by first | omega | (simp; done) | (simp; omega))
  replace K_x := Lib.hid K_x
  clear hb
  have l_a : w.heap.size < w7.heap.size := by omega
  have c_a_0 := blk_cell K_a.out 0; simp at c_a_0
  have c_a_1 := blk_cell K_a.out 1; simp at c_a_1
  have l_c : w.heap.size + 1 + 1 < w7.heap.size := by omega
  have c_c_0 := blk_cell K_c.out 0; simp at c_c_0
  have c_c_1 := blk_cell K_c.out 1; simp at c_c_1
  go_wp2_with fail
  refine (mul_any _ _ _ _ _).mono ?_; rintro e w8 ⟨rfl, hb⟩
  clear c_a_0 c_a_1 l_a
  clear c_c_0 c_c_1 l_c
  have z8 := hb.size; simp at z8
  replace B := below_after (B.alloc (by first | omega | (simp; done) | (simp; omega)) _) hb (by first | omega | (simp; done) | (simp; omega))
  replace K_a := Lib.hid (blk_below (blk_alloc K_a.out _) hb (by first | omega | (simp; done) | (simp; omega)))
  replace K_b := Lib.hid (blk_below (blk_alloc K_b.out _) hb (by first | omega | (simp; done) | (simp; omega)))
  replace K_c := Lib.hid (blk_below (blk_alloc K_c.out _) hb (by first | omega | (simp; done) | (simp; omega)))
  replace K_x := Lib.hid (blk_below (blk_alloc K_x.out _) hb (by first | omega | (simp; done) | (simp; omega)))
  have K_y := blk_below (blk_new _ _) hb (by first | omega | (simp; done) | (simp; omega))
  replace K_y := Lib.hid K_y
  clear hb
  have l_b : w.heap.size + 1 < w8.heap.size := by omega
  have c_b_0 := blk_cell K_b.out 0; simp at c_b_0
  have c_b_1 := blk_cell K_b.out 1; simp at c_b_1
  have l_c : w.heap.size + 1 + 1 < w8.heap.size := by omega
  have c_c_0 := blk_cell K_c.out 0; simp at c_c_0
  have c_c_1 := blk_cell K_c.out 1; simp at c_c_1
  go_wp2_with fail
  refine (mul_any _ _ _ _ _).mono ?_; rintro e w9 ⟨rfl, hb⟩
  clear c_b_0 c_b_1 l_b
  clear c_c_0 c_c_1 l_c
  have z9 := hb.size; simp at z9
  replace B := below_after (B.alloc (by first | omega | (simp; done) | (simp; omega)) _) hb (by first | omega | (simp; done) | (simp; omega))
  replace K_a := Lib.hid (blk_below (blk_alloc K_a.out _) hb (by first | omega | (simp; done) | (simp; omega)))
  replace K_b := Lib.hid (blk_below (blk_alloc K_b.out _) hb (by first | omega | (simp; done) | (simp; omega)))
  replace K_c := Lib.hid (blk_below (blk_alloc K_c.out _) hb (by first | omega | (simp; done) | (simp; omega)))
  replace K_x := Lib.hid (blk_below (blk_alloc K_x.out _) hb (by first | omega | (simp; done) | (simp; omega)))
  replace K_y := Lib.hid (blk_below (blk_alloc K_y.out _) hb (by first | omega | (simp; done) | (simp; omega)))
  have K_p := blk_below (blk_new _ _) hb (by first | omega | (simp; done) | (simp; omega))
  replace K_p := Lib.hid K_p
  clear hb
  have l_c : w.heap.size + 1 + 1 < w9.heap.size := by omega
  have c_c_0 := blk_cell K_c.out 0; simp at c_c_0
  have c_c_1 := blk_cell K_c.out 1; simp at c_c_1
  go_wp2
  go_ret
  exact ⟨by simp, B.alloc (by first | omega | (simp; done) | (simp; omega)) _⟩

set_option maxRecDepth 100000 in
set_option maxHeartbeats 4000000 in
theorem rationalOrder_lt1_tf_fnn (an ad bn bd cn cd : Int) (va : Valid an ad) (vb : Valid bn bd) (vc : Valid cn cd) (hab : lessV an ad bn bd = true) (hba : lessV bn bd an ad = false) (hbc : lessV bn bd cn cd = true) (hac : lessV an ad cn cd = true) (hne : ¬ an = bn) (hi : addE an ad cn cd = 0) (hj : addE bn bd cn cd ≠ 0) (hmi : mulE an ad cn cd ≠ 0) (w : World) :
    Calls Try.prog 8 #[.agg #[.int .i64 an, .int .i64 ad], .agg #[.int .i64 bn, .int .i64 bd], .agg #[.int .i64 cn, .int .i64 cd]] w fun e w' => e = .returned (.bool true) ∧ Below w.heap.size w w' := by
  have e1 : lessE an ad bn bd = 0 := if_pos ⟨va, vb⟩
  have e2 : lessE bn bd an ad = 0 := if_pos ⟨vb, va⟩
  have e3 : lessE bn bd cn cd = 0 := if_pos ⟨vb, vc⟩
  have e4 : lessE an ad cn cd = 0 := if_pos ⟨va, vc⟩
  have ti : (addE an ad cn cd == 0) = true := by simpa using hi
  have ui : (addE an ad cn cd != 0) = false := by simpa using hi
  have tj : (addE bn bd cn cd == 0) = false := by simpa using hj
  have uj : (addE bn bd cn cd != 0) = true := by simpa using hj
  have tmi : (mulE an ad cn cd == 0) = false := by simpa using hmi
  have umi : (mulE an ad cn cd != 0) = true := by simpa using hmi
  clear va vc vb hi hj hmi
  have B := Below.refl w.heap.size w
  go_enter Try.func8, Try.ntmps8
  go_wp2_with fail
  refine (sane_any _).mono ?_; rintro e w1 ⟨rfl, hb⟩
  have z1 := hb.size; simp at z1
  replace B := below_after (((B.alloc (by first | omega | (simp; done) | (simp; omega)) _).alloc (by first | omega | (simp; done) | (simp; omega)) _).alloc (by first | omega | (simp; done) | (simp; omega)) _) hb (by first | omega | (simp; done) | (simp; omega))
  have K_a := blk_below (blk_alloc (blk_alloc (blk_new _ _) _) _) hb (by first | omega | (simp; done) | (simp; omega))
  replace K_a := Lib.hid K_a
  have K_b := blk_below (blk_alloc (blk_new _ _) _) hb (by first | omega | (simp; done) | (simp; omega))
  rw [World.size_alloc] at K_b
  replace K_b := Lib.hid K_b
  have K_c := blk_below (blk_new _ _) hb (by first | omega | (simp; done) | (simp; omega))
  rw [World.size_alloc, World.size_alloc] at K_c
  replace K_c := Lib.hid K_c
  clear hb
  have c_a_0 := blk_cell K_a.out 0; simp at c_a_0
  have c_a_1 := blk_cell K_a.out 1; simp at c_a_1
  have c_b_0 := blk_cell K_b.out 0; simp at c_b_0
  have c_b_1 := blk_cell K_b.out 1; simp at c_b_1
  go_wp2_with fail
  refine (less_any _ _ _ _ _).mono ?_; rintro e w2 ⟨rfl, hb⟩
  rw [e1]
  clear c_a_0 c_a_1
  clear c_b_0 c_b_1
  have z2 := hb.size
  replace B := below_after B hb (by first | omega | (simp; done) | (simp; omega))
  replace K_a := Lib.hid (blk_below K_a.out hb (by first | omega | (simp; done) | (simp; omega)))
  replace K_b := Lib.hid (blk_below K_b.out hb (by first | omega | (simp; done) | (simp; omega)))
  replace K_c := Lib.hid (blk_below K_c.out hb (by first | omega | (simp; done) | (simp; omega)))
  clear hb
  have c_b_0 := blk_cell K_b.out 0; simp at c_b_0
  have c_b_1 := blk_cell K_b.out 1; simp at c_b_1
  have c_a_0 := blk_cell K_a.out 0; simp at c_a_0
  have c_a_1 := blk_cell K_a.out 1; simp at c_a_1
  go_wp2_with fail
  refine (less_any _ _ _ _ _).mono ?_; rintro e w3 ⟨rfl, hb⟩
  rw [e2]
  clear c_b_0 c_b_1
  clear c_a_0 c_a_1
  have z3 := hb.size
  replace B := below_after B hb (by first | omega | (simp; done) | (simp; omega))
  replace K_a := Lib.hid (blk_below K_a.out hb (by first | omega | (simp; done) | (simp; omega)))
  replace K_b := Lib.hid (blk_below K_b.out hb (by first | omega | (simp; done) | (simp; omega)))
  replace K_c := Lib.hid (blk_below K_c.out hb (by first | omega | (simp; done) | (simp; omega)))
  clear hb
  have c_b_0 := blk_cell K_b.out 0; simp at c_b_0
  have c_b_1 := blk_cell K_b.out 1; simp at c_b_1
  have c_c_0 := blk_cell K_c.out 0; simp at c_c_0
  have c_c_1 := blk_cell K_c.out 1; simp at c_c_1
  go_wp2_with fail
  refine (less_any _ _ _ _ _).mono ?_; rintro e w4 ⟨rfl, hb⟩
  rw [e3]
  clear c_b_0 c_b_1
  clear c_c_0 c_c_1
  have z4 := hb.size
  replace B := below_after B hb (by first | omega | (simp; done) | (simp; omega))
  replace K_a := Lib.hid (blk_below K_a.out hb (by first | omega | (simp; done) | (simp; omega)))
  replace K_b := Lib.hid (blk_below K_b.out hb (by first | omega | (simp; done) | (simp; omega)))
  replace K_c := Lib.hid (blk_below K_c.out hb (by first | omega | (simp; done) | (simp; omega)))
  clear hb
  have c_a_0 := blk_cell K_a.out 0; simp at c_a_0
  have c_a_1 := blk_cell K_a.out 1; simp at c_a_1
  have c_c_0 := blk_cell K_c.out 0; simp at c_c_0
  have c_c_1 := blk_cell K_c.out 1; simp at c_c_1
  go_wp2_with fail
  refine (less_any _ _ _ _ _).mono ?_; rintro e w5 ⟨rfl, hb⟩
  rw [e4]
  clear c_a_0 c_a_1
  clear c_c_0 c_c_1
  have z5 := hb.size
  replace B := below_after B hb (by first | omega | (simp; done) | (simp; omega))
  replace K_a := Lib.hid (blk_below K_a.out hb (by first | omega | (simp; done) | (simp; omega)))
  replace K_b := Lib.hid (blk_below K_b.out hb (by first | omega | (simp; done) | (simp; omega)))
  replace K_c := Lib.hid (blk_below K_c.out hb (by first | omega | (simp; done) | (simp; omega)))
  clear hb
  have c_a_0 := blk_cell K_a.out 0; simp at c_a_0
  have c_a_1 := blk_cell K_a.out 1; simp at c_a_1
  have c_b_0 := blk_cell K_b.out 0; simp at c_b_0
  have c_b_1 := blk_cell K_b.out 1; simp at c_b_1
  have c_c_0 := blk_cell K_c.out 0; simp at c_c_0
  have c_c_1 := blk_cell K_c.out 1; simp at c_c_1
  go_wp2_with fail
  refine (add_any _ _ _ _ _).mono ?_; rintro e w6 ⟨rfl, hb⟩
  clear c_c_0 c_c_1
  have z6 := hb.size
  replace B := below_after B hb (by first | omega | (simp; done) | (simp; omega))
  replace K_a := Lib.hid (blk_below K_a.out hb (by first | omega | (simp; done) | (simp; omega)))
  replace K_b := Lib.hid (blk_below K_b.out hb (by first | omega | (simp; done) | (simp; omega)))
  replace K_c := Lib.hid (blk_below K_c.out hb (by first | omega | (simp; done) | (simp; omega)))
  clear hb
  clear c_a_0 c_a_1 c_b_0 c_b_1
  have l_b : w.heap.size + 1 < w6.heap.size := by omega
  have c_b_0 := blk_cell K_b.out 0; simp at c_b_0
  have c_b_1 := blk_cell K_b.out 1; simp at c_b_1
  have l_c : w.heap.size + 1 + 1 < w6.heap.size := by omega
  have c_c_0 := blk_cell K_c.out 0; simp at c_c_0
  have c_c_1 := blk_cell K_c.out 1; simp at c_c_1
  go_wp2_with fail
  refine (add_any _ _ _ _ _).mono ?_; rintro e w7 ⟨rfl, hb⟩
  clear c_b_0 c_b_1 l_b
  clear c_c_0 c_c_1 l_c
  have z7 := hb.size; simp at z7
  replace B := below_after (B.alloc (by first | omega | (simp; done) | (simp; omega)) _) hb (by first | omega | (simp; done) | (simp; omega))
  replace K_a := Lib.hid (blk_below (blk_alloc K_a.out _) hb (by first | omega | (simp; done) | (simp; omega)))
  replace K_b := Lib.hid (blk_below (blk_alloc K_b.out _) hb (by first | omega | (simp; done) | (simp; omega)))
  replace K_c := Lib.hid (blk_below (blk_alloc K_c.out _) hb (by first | omega | (simp; done) | (simp; omega)))
  have K_x := blk_below (blk_new _ _) hb (by first | omega | (simp; done) | (simp; omega))
  replace K_x := Lib.hid K_x
  clear hb
  have l_a : w.heap.size < w7.heap.size := by omega
  have c_a_0 := blk_cell K_a.out 0; simp at c_a_0
  have c_a_1 := blk_cell K_a.out 1; simp at c_a_1
  have l_c : w.heap.size + 1 + 1 < w7.heap.size := by omega
  have c_c_0 := blk_cell K_c.out 0; simp at c_c_0
  have c_c_1 := blk_cell K_c.out 1; simp at c_c_1
  go_wp2_with fail
  refine (mul_any _ _ _ _ _).mono ?_; rintro e w8 ⟨rfl, hb⟩
  clear c_a_0 c_a_1 l_a
  clear c_c_0 c_c_1 l_c
  have z8 := hb.size; simp at z8
  replace B := below_after (B.alloc (by first | omega | (simp; done) | (simp; omega)) _) hb (by first | omega | (simp; done) | (simp; omega))
  replace K_a := Lib.hid (blk_below (blk_alloc K_a.out _) hb (by first | omega | (simp; done) | (simp; omega)))
  replace K_b := Lib.hid (blk_below (blk_alloc K_b.out _) hb (by first | omega | (simp; done) | (simp; omega)))
  replace K_c := Lib.hid (blk_below (blk_alloc K_c.out _) hb (by first | omega | (simp; done) | (simp; omega)))
  replace K_x := Lib.hid (blk_below (blk_alloc K_x.out _) hb (by first | omega | (simp; done) | (simp; omega)))
  have K_y := blk_below (blk_new _ _) hb (by first | omega | (simp; done) | (simp; omega))
  replace K_y := Lib.hid K_y
  clear hb
  have l_b : w.heap.size + 1 < w8.heap.size := by omega
  have c_b_0 := blk_cell K_b.out 0; simp at c_b_0
  have c_b_1 := blk_cell K_b.out 1; simp at c_b_1
  have l_c : w.heap.size + 1 + 1 < w8.heap.size := by omega
  have c_c_0 := blk_cell K_c.out 0; simp at c_c_0
  have c_c_1 := blk_cell K_c.out 1; simp at c_c_1
  go_wp2_with fail
  refine (mul_any _ _ _ _ _).mono ?_; rintro e w9 ⟨rfl, hb⟩
  clear c_b_0 c_b_1 l_b
  clear c_c_0 c_c_1 l_c
  have z9 := hb.size; simp at z9
  replace B := below_after (B.alloc (by first | omega | (simp; done) | (simp; omega)) _) hb (by first | omega | (simp; done) | (simp; omega))
  replace K_a := Lib.hid (blk_below (blk_alloc K_a.out _) hb (by first | omega | (simp; done) | (simp; omega)))
  replace K_b := Lib.hid (blk_below (blk_alloc K_b.out _) hb (by first | omega | (simp; done) | (simp; omega)))
  replace K_c := Lib.hid (blk_below (blk_alloc K_c.out _) hb (by first | omega | (simp; done) | (simp; omega)))
  replace K_x := Lib.hid (blk_below (blk_alloc K_x.out _) hb (by first | omega | (simp; done) | (simp; omega)))
  replace K_y := Lib.hid (blk_below (blk_alloc K_y.out _) hb (by first | omega | (simp; done) | (simp; omega)))
  have K_p := blk_below (blk_new _ _) hb (by first | omega | (simp; done) | (simp; omega))
  replace K_p := Lib.hid K_p
  clear hb
  go_wp2
  go_ret
  exact ⟨by simp, B.alloc (by first | omega | (simp; done) | (simp; omega)) _⟩

set_option maxRecDepth 100000 in
set_option maxHeartbeats 4000000 in
theorem rationalOrder_lt1_fn_ttf (an ad bn bd cn cd : Int) (va : Valid an ad) (vb : Valid bn bd) (vc : Valid cn cd) (hab : lessV an ad bn bd = true) (hba : lessV bn bd an ad = false) (hbc : lessV bn bd cn cd = true) (hac : lessV an ad cn cd = true) (hne : ¬ an = bn) (hi : addE an ad cn cd ≠ 0) (hmi : mulE an ad cn cd = 0) (hmj : mulE bn bd cn cd = 0) (hp : cn ≤ 0) (w : World) :
    Calls Try.prog 8 #[.agg #[.int .i64 an, .int .i64 ad], .agg #[.int .i64 bn, .int .i64 bd], .agg #[.int .i64 cn, .int .i64 cd]] w fun e w' => e = .returned (.bool true) ∧ Below w.heap.size w w' := by
  have e1 : lessE an ad bn bd = 0 := if_pos ⟨va, vb⟩
  have e2 : lessE bn bd an ad = 0 := if_pos ⟨vb, va⟩
  have e3 : lessE bn bd cn cd = 0 := if_pos ⟨vb, vc⟩
  have e4 : lessE an ad cn cd = 0 := if_pos ⟨va, vc⟩
  have ti : (addE an ad cn cd == 0) = false := by simpa using hi
  have ui : (addE an ad cn cd != 0) = true := by simpa using hi
  have tmi : (mulE an ad cn cd == 0) = true := by simpa using hmi
  have umi : (mulE an ad cn cd != 0) = false := by simpa using hmi
  have tmj : (mulE bn bd cn cd == 0) = true := by simpa using hmj
  have umj : (mulE bn bd cn cd != 0) = false := by simpa using hmj
  clear va vc vb hi hmi hmj
  have B := Below.refl w.heap.size w
  go_enter Try.func8, Try.ntmps8
  go_wp2_with fail
  refine (sane_any _).mono ?_; rintro e w1 ⟨rfl, hb⟩
  have z1 := hb.size; simp at z1
  replace B := below_after (((B.alloc (by first | omega | (simp; done) | (simp; omega)) _).alloc (by first | omega | (simp; done) | (simp; omega)) _).alloc (by first | omega | (simp; done) | (simp; omega)) _) hb (by first | omega | (simp; done) | (simp; omega))
  have K_a := blk_below (blk_alloc (blk_alloc (blk_new _ _) _) _) hb (by first | omega | (simp; done) | (simp; omega))
  replace K_a := Lib.hid K_a
  have K_b := blk_below (blk_alloc (blk_new _ _) _) hb (by first | omega | (simp; done) | (simp; omega))
  rw [World.size_alloc] at K_b
  replace K_b := Lib.hid K_b
  have K_c := blk_below (blk_new _ _) hb (by first | omega | (simp; done) | (simp; omega))
  rw [World.size_alloc, World.size_alloc] at K_c
  replace K_c := Lib.hid K_c
  clear hb
  have c_a_0 := blk_cell K_a.out 0; simp at c_a_0
  have c_a_1 := blk_cell K_a.out 1; simp at c_a_1
  have c_b_0 := blk_cell K_b.out 0; simp at c_b_0
  have c_b_1 := blk_cell K_b.out 1; simp at c_b_1
  go_wp2_with fail
  refine (less_any _ _ _ _ _).mono ?_; rintro e w2 ⟨rfl, hb⟩
  rw [e1]
  clear c_a_0 c_a_1
  clear c_b_0 c_b_1
  have z2 := hb.size
  replace B := below_after B hb (by first | omega | (simp; done) | (simp; omega))
  replace K_a := Lib.hid (blk_below K_a.out hb (by first | omega | (simp; done) | (simp; omega)))
  replace K_b := Lib.hid (blk_below K_b.out hb (by first | omega | (simp; done) | (simp; omega)))
  replace K_c := Lib.hid (blk_below K_c.out hb (by first | omega | (simp; done) | (simp; omega)))
  clear hb
  have c_b_0 := blk_cell K_b.out 0; simp at c_b_0
  have c_b_1 := blk_cell K_b.out 1; simp at c_b_1
  have c_a_0 := blk_cell K_a.out 0; simp at c_a_0
  have c_a_1 := blk_cell K_a.out 1; simp at c_a_1
  go_wp2_with fail
  refine (less_any _ _ _ _ _).mono ?_; rintro e w3 ⟨rfl, hb⟩
  rw [e2]
  clear c_b_0 c_b_1
  clear c_a_0 c_a_1
  have z3 := hb.size
  replace B := below_after B hb (by first | omega | (simp; done) | (simp; omega))
  replace K_a := Lib.hid (blk_below K_a.out hb (by first | omega | (simp; done) | (simp; omega)))
  replace K_b := Lib.hid (blk_below K_b.out hb (by first | omega | (simp; done) | (simp; omega)))
  replace K_c := Lib.hid (blk_below K_c.out hb (by first | omega | (simp; done) | (simp; omega)))
  clear hb
  have c_b_0 := blk_cell K_b.out 0; simp at c_b_0
  have c_b_1 := blk_cell K_b.out 1; simp at c_b_1
  have c_c_0 := blk_cell K_c.out 0; simp at c_c_0
  have c_c_1 := blk_cell K_c.out 1; simp at c_c_1
  go_wp2_with fail
  refine (less_any _ _ _ _ _).mono ?_; rintro e w4 ⟨rfl, hb⟩
  rw [e3]
  clear c_b_0 c_b_1
  clear c_c_0 c_c_1
  have z4 := hb.size
  replace B := below_after B hb (by first | omega | (simp; done) | (simp; omega))
  replace K_a := Lib.hid (blk_below K_a.out hb (by first | omega | (simp; done) | (simp; omega)))
  replace K_b := Lib.hid (blk_below K_b.out hb (by first | omega | (simp; done) | (simp; omega)))
  replace K_c := Lib.hid (blk_below K_c.out hb (by first | omega | (simp; done) | (simp; omega)))
  clear hb
  have c_a_0 := blk_cell K_a.out 0; simp at c_a_0
  have c_a_1 := blk_cell K_a.out 1; simp at c_a_1
  have c_c_0 := blk_cell K_c.out 0; simp at c_c_0
  have c_c_1 := blk_cell K_c.out 1; simp at c_c_1
  go_wp2_with fail
  refine (less_any _ _ _ _ _).mono ?_; rintro e w5 ⟨rfl, hb⟩
  rw [e4]
  clear c_a_0 c_a_1
  clear c_c_0 c_c_1
  have z5 := hb.size
  replace B := below_after B hb (by first | omega | (simp; done) | (simp; omega))
  replace K_a := Lib.hid (blk_below K_a.out hb (by first | omega | (simp; done) | (simp; omega)))
  replace K_b := Lib.hid (blk_below K_b.out hb (by first | omega | (simp; done) | (simp; omega)))
  replace K_c := Lib.hid (blk_below K_c.out hb (by first | omega | (simp; done) | (simp; omega)))
  clear hb
  have c_a_0 := blk_cell K_a.out 0; simp at c_a_0
  have c_a_1 := blk_cell K_a.out 1; simp at c_a_1
  have c_b_0 := blk_cell K_b.out 0; simp at c_b_0
  have c_b_1 := blk_cell K_b.out 1; simp at c_b_1
  have c_c_0 := blk_cell K_c.out 0; simp at c_c_0
  have c_c_1 := blk_cell K_c.out 1; simp at c_c_1
  go_wp2_with fail
  refine (add_any _ _ _ _ _).mono ?_; rintro e w6 ⟨rfl, hb⟩
  clear c_c_0 c_c_1
  have z6 := hb.size
  replace B := below_after B hb (by first | omega | (simp; done) | (simp; omega))
  replace K_a := Lib.hid (blk_below K_a.out hb (by first | omega | (simp; done) | (simp; omega)))
  replace K_b := Lib.hid (blk_below K_b.out hb (by first | omega | (simp; done) | (simp; omega)))
  replace K_c := Lib.hid (blk_below K_c.out hb (by first | omega | (simp; done) | (simp; omega)))
  clear hb
  clear c_a_0 c_a_1 c_b_0 c_b_1
  have l_b : w.heap.size + 1 < w6.heap.size := by omega
  have c_b_0 := blk_cell K_b.out 0; simp at c_b_0
  have c_b_1 := blk_cell K_b.out 1; simp at c_b_1
  have l_c : w.heap.size + 1 + 1 < w6.heap.size := by omega
  have c_c_0 := blk_cell K_c.out 0; simp at c_c_0
  have c_c_1 := blk_cell K_c.out 1; simp at c_c_1
  go_wp2_with fail
  refine (add_any _ _ _ _ _).mono ?_; rintro e w7 ⟨rfl, hb⟩
  clear c_b_0 c_b_1 l_b
  clear c_c_0 c_c_1 l_c
  have z7 := hb.size; simp at z7
  replace B := below_after (B.alloc (by first | omega | (simp; done) | (simp; omega)) _) hb (by first | omega | (simp; done) | (simp; omega))
  replace K_a := Lib.hid (blk_below (blk_alloc K_a.out _) hb (by first | omega | (simp; done) | (simp; omega)))
  replace K_b := Lib.hid (blk_below (blk_alloc K_b.out _) hb (by first | omega | (simp; done) | (simp; omega)))
  replace K_c := Lib.hid (blk_below (blk_alloc K_c.out _) hb (by first | omega | (simp; done) | (simp; omega)))
  have K_x := blk_below (blk_new _ _) hb (by first | omega | (simp; done) | (simp; omega))
  replace K_x := Lib.hid K_x
  clear hb
  have l_a : w.heap.size < w7.heap.size := by omega
  have c_a_0 := blk_cell K_a.out 0; simp at c_a_0
  have c_a_1 := blk_cell K_a.out 1; simp at c_a_1
  have l_c : w.heap.size + 1 + 1 < w7.heap.size := by omega
  have c_c_0 := blk_cell K_c.out 0; simp at c_c_0
  have c_c_1 := blk_cell K_c.out 1; simp at c_c_1
  go_wp2_with fail
  refine (mul_any _ _ _ _ _).mono ?_; rintro e w8 ⟨rfl, hb⟩
  clear c_a_0 c_a_1 l_a
  clear c_c_0 c_c_1 l_c
  have z8 := hb.size; simp at z8
  replace B := below_after (B.alloc (by first | omega | (simp; done) | (simp; omega)) _) hb (by first | omega | (simp; done) | (simp; omega))
  replace K_a := Lib.hid (blk_below (blk_alloc K_a.out _) hb (by first | omega | (simp; done) | (simp; omega)))
  replace K_b := Lib.hid (blk_below (blk_alloc K_b.out _) hb (by first | omega | (simp; done) | (simp; omega)))
  replace K_c := Lib.hid (blk_below (blk_alloc K_c.out _) hb (by first | omega | (simp; done) | (simp; omega)))
  replace K_x := Lib.hid (blk_below (blk_alloc K_x.out _) hb (by first | omega | (simp; done) | (simp; omega)))
  have K_y := blk_below (blk_new _ _) hb (by first | omega | (simp; done) | (simp; omega))
  replace K_y := Lib.hid K_y
  clear hb
  have l_b : w.heap.size + 1 < w8.heap.size := by omega
  have c_b_0 := blk_cell K_b.out 0; simp at c_b_0
  have c_b_1 := blk_cell K_b.out 1; simp at c_b_1
  have l_c : w.heap.size + 1 + 1 < w8.heap.size := by omega
  have c_c_0 := blk_cell K_c.out 0; simp at c_c_0
  have c_c_1 := blk_cell K_c.out 1; simp at c_c_1
  go_wp2_with fail
  refine (mul_any _ _ _ _ _).mono ?_; rintro e w9 ⟨rfl, hb⟩
  clear c_b_0 c_b_1 l_b
  clear c_c_0 c_c_1 l_c
  have z9 := hb.size; simp at z9
  replace B := below_after (B.alloc (by first | omega | (simp; done) | (simp; omega)) _) hb (by first | omega | (simp; done) | (simp; omega))
  replace K_a := Lib.hid (blk_below (blk_alloc K_a.out _) hb (by first | omega | (simp; done) | (simp; omega)))
  replace K_b := Lib.hid (blk_below (blk_alloc K_b.out _) hb (by first | omega | (simp; done) | (simp; omega)))
  replace K_c := Lib.hid (blk_below (blk_alloc K_c.out _) hb (by first | omega | (simp; done) | (simp; omega)))
  replace K_x := Lib.hid (blk_below (blk_alloc K_x.out _) hb (by first | omega | (simp; done) | (simp; omega)))
  replace K_y := Lib.hid (blk_below (blk_alloc K_y.out _) hb (by first | omega | (simp; done) | (simp; omega)))
  have K_p := blk_below (blk_new _ _) hb (by first | omega | (simp; done) | (simp; omega))
  replace K_p := Lib.hid K_p
  clear hb
  have l_c : w.heap.size + 1 + 1 < w9.heap.size := by omega
  have c_c_0 := blk_cell K_c.out 0; simp at c_c_0
  have c_c_1 := blk_cell K_c.out 1; simp at c_c_1
  go_wp2
  go_ret
  exact ⟨by simp, B.alloc (by first | omega | (simp; done) | (simp; omega)) _⟩

set_option maxRecDepth 100000 in
set_option maxHeartbeats 4000000 in
theorem rationalOrder_lt1_fn_fnn (an ad bn bd cn cd : Int) (va : Valid an ad) (vb : Valid bn bd) (vc : Valid cn cd) (hab : lessV an ad bn bd = true) (hba : lessV bn bd an ad = false) (hbc : lessV bn bd cn cd = true) (hac : lessV an ad cn cd = true) (hne : ¬ an = bn) (hi : addE an ad cn cd ≠ 0) (hmi : mulE an ad cn cd ≠ 0) (w : World) :
    Calls Try.prog 8 #[.agg #[.int .i64 an, .int .i64 ad], .agg #[.int .i64 bn, .int .i64 bd], .agg #[.int .i64 cn, .int .i64 cd]] w fun e w' => e = .returned (.bool true) ∧ Below w.heap.size w w' := by
  have e1 : lessE an ad bn bd = 0 := if_pos ⟨va, vb⟩
  have e2 : lessE bn bd an ad = 0 := if_pos ⟨vb, va⟩
  have e3 : lessE bn bd cn cd = 0 := if_pos ⟨vb, vc⟩
  have e4 : lessE an ad cn cd = 0 := if_pos ⟨va, vc⟩
  have ti : (addE an ad cn cd == 0) = false := by simpa using hi
  have ui : (addE an ad cn cd != 0) = true := by simpa using hi
  have tmi : (mulE an ad cn cd == 0) = false := by simpa using hmi
  have umi : (mulE an ad cn cd != 0) = true := by simpa using hmi
  clear va vc vb hi hmi
  have B := Below.refl w.heap.size w
  go_enter Try.func8, Try.ntmps8
  go_wp2_with fail
  refine (sane_any _).mono ?_; rintro e w1 ⟨rfl, hb⟩
  have z1 := hb.size; simp at z1
  replace B := below_after (((B.alloc (by first | omega | (simp; done) | (simp; omega)) _).alloc (by first | omega | (simp; done) | (simp; omega)) _).alloc (by first | omega | (simp; done) | (simp; omega)) _) hb (by first | omega | (simp; done) | (simp; omega))
  have K_a := blk_below (blk_alloc (blk_alloc (blk_new _ _) _) _) hb (by first | omega | (simp; done) | (simp; omega))
  replace K_a := Lib.hid K_a
  have K_b := blk_below (blk_alloc (blk_new _ _) _) hb (by first | omega | (simp; done) | (simp; omega))
  rw [World.size_alloc] at K_b
  replace K_b := Lib.hid K_b
  have K_c := blk_below (blk_new _ _) hb (by first | omega | (simp; done) | (simp; omega))
  rw [World.size_alloc, World.size_alloc] at K_c
  replace K_c := Lib.hid K_c
  clear hb
  have c_a_0 := blk_cell K_a.out 0; simp at c_a_0
  have c_a_1 := blk_cell K_a.out 1; simp at c_a_1
  have c_b_0 := blk_cell K_b.out 0; simp at c_b_0
  have c_b_1 := blk_cell K_b.out 1; simp at c_b_1
  go_wp2_with fail
  refine (less_any _ _ _ _ _).mono ?_; rintro e w2 ⟨rfl, hb⟩
  rw [e1]
  clear c_a_0 c_a_1
  clear c_b_0 c_b_1
  have z2 := hb.size
  replace B := below_after B hb (by first | omega | (simp; done) | (simp; omega))
  replace K_a := Lib.hid (blk_below K_a.out hb (by first | omega | (simp; done) | (simp; omega)))
  replace K_b := Lib.hid (blk_below K_b.out hb (by first | omega | (simp; done) | (simp; omega)))
  replace K_c := Lib.hid (blk_below K_c.out hb (by first | omega | (simp; done) | (simp; omega)))
  clear hb
  have c_b_0 := blk_cell K_b.out 0; simp at c_b_0
  have c_b_1 := blk_cell K_b.out 1; simp at c_b_1
  have c_a_0 := blk_cell K_a.out 0; simp at c_a_0
  have c_a_1 := blk_cell K_a.out 1; simp at c_a_1
  go_wp2_with fail
  refine (less_any _ _ _ _ _).mono ?_; rintro e w3 ⟨rfl, hb⟩
  rw [e2]
  clear c_b_0 c_b_1
  clear c_a_0 c_a_1
  have z3 := hb.size
  replace B := below_after B hb (by first | omega | (simp; done) | (simp; omega))
  replace K_a := Lib.hid (blk_below K_a.out hb (by first | omega | (simp; done) | (simp; omega)))
  replace K_b := Lib.hid (blk_below K_b.out hb (by first | omega | (simp; done) | (simp; omega)))
  replace K_c := Lib.hid (blk_below K_c.out hb (by first | omega | (simp; done) | (simp; omega)))
  clear hb
  have c_b_0 := blk_cell K_b.out 0; simp at c_b_0
  have c_b_1 := blk_cell K_b.out 1; simp at c_b_1
  have c_c_0 := blk_cell K_c.out 0; simp at c_c_0
  have c_c_1 := blk_cell K_c.out 1; simp at c_c_1
  go_wp2_with fail
  refine (less_any _ _ _ _ _).mono ?_; rintro e w4 ⟨rfl, hb⟩
  rw [e3]
  clear c_b_0 c_b_1
  clear c_c_0 c_c_1
  have z4 := hb.size
  replace B := below_after B hb (by first | omega | (simp; done) | (simp; omega))
  replace K_a := Lib.hid (blk_below K_a.out hb (by first | omega | (simp; done) | (simp; omega)))
  replace K_b := Lib.hid (blk_below K_b.out hb (by first | omega | (simp; done) | (simp; omega)))
  replace K_c := Lib.hid (blk_below K_c.out hb (by first | omega | (simp; done) | (simp; omega)))
  clear hb
  have c_a_0 := blk_cell K_a.out 0; simp at c_a_0
  have c_a_1 := blk_cell K_a.out 1; simp at c_a_1
  have c_c_0 := blk_cell K_c.out 0; simp at c_c_0
  have c_c_1 := blk_cell K_c.out 1; simp at c_c_1
  go_wp2_with fail
  refine (less_any _ _ _ _ _).mono ?_; rintro e w5 ⟨rfl, hb⟩
  rw [e4]
  clear c_a_0 c_a_1
  clear c_c_0 c_c_1
  have z5 := hb.size
  replace B := below_after B hb (by first | omega | (simp; done) | (simp; omega))
  replace K_a := Lib.hid (blk_below K_a.out hb (by first | omega | (simp; done) | (simp; omega)))
  replace K_b := Lib.hid (blk_below K_b.out hb (by first | omega | (simp; done) | (simp; omega)))
  replace K_c := Lib.hid (blk_below K_c.out hb (by first | omega | (simp; done) | (simp; omega)))
  clear hb
  have c_a_0 := blk_cell K_a.out 0; simp at c_a_0
  have c_a_1 := blk_cell K_a.out 1; simp at c_a_1
  have c_b_0 := blk_cell K_b.out 0; simp at c_b_0
  have c_b_1 := blk_cell K_b.out 1; simp at c_b_1
  have c_c_0 := blk_cell K_c.out 0; simp at c_c_0
  have c_c_1 := blk_cell K_c.out 1; simp at c_c_1
  go_wp2_with fail
  refine (add_any _ _ _ _ _).mono ?_; rintro e w6 ⟨rfl, hb⟩
  clear c_c_0 c_c_1
  have z6 := hb.size
  replace B := below_after B hb (by first | omega | (simp; done) | (simp; omega))
  replace K_a := Lib.hid (blk_below K_a.out hb (by first | omega | (simp; done) | (simp; omega)))
  replace K_b := Lib.hid (blk_below K_b.out hb (by first | omega | (simp; done) | (simp; omega)))
  replace K_c := Lib.hid (blk_below K_c.out hb (by first | omega | (simp; done) | (simp; omega)))
  clear hb
  clear c_a_0 c_a_1 c_b_0 c_b_1
  have l_b : w.heap.size + 1 < w6.heap.size := by omega
  have c_b_0 := blk_cell K_b.out 0; simp at c_b_0
  have c_b_1 := blk_cell K_b.out 1; simp at c_b_1
  have l_c : w.heap.size + 1 + 1 < w6.heap.size := by omega
  have c_c_0 := blk_cell K_c.out 0; simp at c_c_0
  have c_c_1 := blk_cell K_c.out 1; simp at c_c_1
  go_wp2_with fail
  refine (add_any _ _ _ _ _).mono ?_; rintro e w7 ⟨rfl, hb⟩
  clear c_b_0 c_b_1 l_b
  clear c_c_0 c_c_1 l_c
  have z7 := hb.size; simp at z7
  replace B := below_after (B.alloc (by first | omega | (simp; done) | (simp; omega)) _) hb (by first | omega | (simp; done) | (simp; omega))
  replace K_a := Lib.hid (blk_below (blk_alloc K_a.out _) hb (by first | omega | (simp; done) | (simp; omega)))
  replace K_b := Lib.hid (blk_below (blk_alloc K_b.out _) hb (by first | omega | (simp; done) | (simp; omega)))
  replace K_c := Lib.hid (blk_below (blk_alloc K_c.out _) hb (by first | omega | (simp; done) | (simp; omega)))
  have K_x := blk_below (blk_new _ _) hb (by first | omega | (simp; done) | (simp; omega))
  replace K_x := Lib.hid K_x
  clear hb
  have l_a : w.heap.size < w7.heap.size := by omega
  have c_a_0 := blk_cell K_a.out 0; simp at c_a_0
  have c_a_1 := blk_cell K_a.out 1; simp at c_a_1
  have l_c : w.heap.size + 1 + 1 < w7.heap.size := by omega
  have c_c_0 := blk_cell K_c.out 0; simp at c_c_0
  have c_c_1 := blk_cell K_c.out 1; simp at c_c_1
  go_wp2_with fail
  refine (mul_any _ _ _ _ _).mono ?_; rintro e w8 ⟨rfl, hb⟩
  clear c_a_0 c_a_1 l_a
  clear c_c_0 c_c_1 l_c
  have z8 := hb.size; simp at z8
  replace B := below_after (B.alloc (by first | omega | (simp; done) | (simp; omega)) _) hb (by first | omega | (simp; done) | (simp; omega))
  replace K_a := Lib.hid (blk_below (blk_alloc K_a.out _) hb (by first | omega | (simp; done) | (simp; omega)))
  replace K_b := Lib.hid (blk_below (blk_alloc K_b.out _) hb (by first | omega | (simp; done) | (simp; omega)))
  replace K_c := Lib.hid (blk_below (blk_alloc K_c.out _) hb (by first | omega | (simp; done) | (simp; omega)))
  replace K_x := Lib.hid (blk_below (blk_alloc K_x.out _) hb (by first | omega | (simp; done) | (simp; omega)))
  have K_y := blk_below (blk_new _ _) hb (by first | omega | (simp; done) | (simp; omega))
  replace K_y := Lib.hid K_y
  clear hb
  have l_b : w.heap.size + 1 < w8.heap.size := by omega
  have c_b_0 := blk_cell K_b.out 0; simp at c_b_0
  have c_b_1 := blk_cell K_b.out 1; simp at c_b_1
  have l_c : w.heap.size + 1 + 1 < w8.heap.size := by omega
  have c_c_0 := blk_cell K_c.out 0; simp at c_c_0
  have c_c_1 := blk_cell K_c.out 1; simp at c_c_1
  go_wp2_with fail
  refine (mul_any _ _ _ _ _).mono ?_; rintro e w9 ⟨rfl, hb⟩
  clear c_b_0 c_b_1 l_b
  clear c_c_0 c_c_1 l_c
  have z9 := hb.size; simp at z9
  replace B := below_after (B.alloc (by first | omega | (simp; done) | (simp; omega)) _) hb (by first | omega | (simp; done) | (simp; omega))
  replace K_a := Lib.hid (blk_below (blk_alloc K_a.out _) hb (by first | omega | (simp; done) | (simp; omega)))
  replace K_b := Lib.hid (blk_below (blk_alloc K_b.out _) hb (by first | omega | (simp; done) | (simp; omega)))
  replace K_c := Lib.hid (blk_below (blk_alloc K_c.out _) hb (by first | omega | (simp; done) | (simp; omega)))
  replace K_x := Lib.hid (blk_below (blk_alloc K_x.out _) hb (by first | omega | (simp; done) | (simp; omega)))
  replace K_y := Lib.hid (blk_below (blk_alloc K_y.out _) hb (by first | omega | (simp; done) | (simp; omega)))
  have K_p := blk_below (blk_new _ _) hb (by first | omega | (simp; done) | (simp; omega))
  replace K_p := Lib.hid K_p
  clear hb
  go_wp2
  go_ret
  exact ⟨by simp, B.alloc (by first | omega | (simp; done) | (simp; omega)) _⟩

set_option maxRecDepth 100000 in
set_option maxHeartbeats 4000000 in
theorem rationalOrder_lt0_tt_ttf (an ad bn bd cn cd : Int) (va : Valid an ad) (vb : Valid bn bd) (vc : Valid cn cd) (hab : lessV an ad bn bd = true) (hba : lessV bn bd an ad = false) (hbc : lessV bn bd cn cd = false) (hne : ¬ an = bn) (hi : addE an ad cn cd = 0) (hj : addE bn bd cn cd = 0) (hmi : mulE an ad cn cd = 0) (hmj : mulE bn bd cn cd = 0) (hp : cn ≤ 0) (w : World) :
    Calls Try.prog 8 #[.agg #[.int .i64 an, .int .i64 ad], .agg #[.int .i64 bn, .int .i64 bd], .agg #[.int .i64 cn, .int .i64 cd]] w fun e w' => e = .returned (.bool true) ∧ Below w.heap.size w w' := by
  have e1 : lessE an ad bn bd = 0 := if_pos ⟨va, vb⟩
  have e2 : lessE bn bd an ad = 0 := if_pos ⟨vb, va⟩
  have e3 : lessE bn bd cn cd = 0 := if_pos ⟨vb, vc⟩
  have e4 : lessE an ad cn cd = 0 := if_pos ⟨va, vc⟩
  have ti : (addE an ad cn cd == 0) = true := by simpa using hi
  have ui : (addE an ad cn cd != 0) = false := by simpa using hi
  have tj : (addE bn bd cn cd == 0) = true := by simpa using hj
  have uj : (addE bn bd cn cd != 0) = false := by simpa using hj
  have tmi : (mulE an ad cn cd == 0) = true := by simpa using hmi
  have umi : (mulE an ad cn cd != 0) = false := by simpa using hmi
  have tmj : (mulE bn bd cn cd == 0) = true := by simpa using hmj
  have umj : (mulE bn bd cn cd != 0) = false := by simpa using hmj
  obtain ⟨s1, s2⟩ := less_add va vb vc hi hj
  rw [hab] at s1
  clear va vc vb hi hj hmi hmj
  have B := Below.refl w.heap.size w
  go_enter Try.func8, Try.ntmps8
  go_wp2_with fail
  refine (sane_any _).mono ?_; rintro e w1 ⟨rfl, hb⟩
  have z1 := hb.size; simp at z1
  replace B := below_after (((B.alloc (by first | omega | (simp; done) | (simp; omega)) _).alloc (by first | omega | (simp; done) | (simp; omega)) _).alloc (by first | omega | (simp; done) | (simp; omega)) _) hb (by first | omega | (simp; done) | (simp; omega))
  have K_a := blk_below (blk_alloc (blk_alloc (blk_new _ _) _) _) hb (by first | omega | (simp; done) | (simp; omega))
  replace K_a := Lib.hid K_a
  have K_b := blk_below (blk_alloc (blk_new _ _) _) hb (by first | omega | (simp; done) | (simp; omega))
  rw [World.size_alloc] at K_b
  replace K_b := Lib.hid K_b
  have K_c := blk_below (blk_new _ _) hb (by first | omega | (simp; done) | (simp; omega))
  rw [World.size_alloc, World.size_alloc] at K_c
  replace K_c := Lib.hid K_c
  clear hb
  have c_a_0 := blk_cell K_a.out 0; simp at c_a_0
  have c_a_1 := blk_cell K_a.out 1; simp at c_a_1
  have c_b_0 := blk_cell K_b.out 0; simp at c_b_0
  have c_b_1 := blk_cell K_b.out 1; simp at c_b_1
  go_wp2_with fail
  refine (less_any _ _ _ _ _).mono ?_; rintro e w2 ⟨rfl, hb⟩
  rw [e1]
  clear c_a_0 c_a_1
  clear c_b_0 c_b_1
  have z2 := hb.size
  replace B := below_after B hb (by first | omega | (simp; done) | (simp; omega))
  replace K_a := Lib.hid (blk_below K_a.out hb (by first | omega | (simp; done) | (simp; omega)))
  replace K_b := Lib.hid (blk_below K_b.out hb (by first | omega | (simp; done) | (simp; omega)))
  replace K_c := Lib.hid (blk_below K_c.out hb (by first | omega | (simp; done) | (simp; omega)))
  clear hb
  have c_b_0 := blk_cell K_b.out 0; simp at c_b_0
  have c_b_1 := blk_cell K_b.out 1; simp at c_b_1
  have c_a_0 := blk_cell K_a.out 0; simp at c_a_0
  have c_a_1 := blk_cell K_a.out 1; simp at c_a_1
  go_wp2_with fail
  refine (less_any _ _ _ _ _).mono ?_; rintro e w3 ⟨rfl, hb⟩
  rw [e2]
  clear c_b_0 c_b_1
  clear c_a_0 c_a_1
  have z3 := hb.size
  replace B := below_after B hb (by first | omega | (simp; done) | (simp; omega))
  replace K_a := Lib.hid (blk_below K_a.out hb (by first | omega | (simp; done) | (simp; omega)))
  replace K_b := Lib.hid (blk_below K_b.out hb (by first | omega | (simp; done) | (simp; omega)))
  replace K_c := Lib.hid (blk_below K_c.out hb (by first | omega | (simp; done) | (simp; omega)))
  clear hb
  have c_b_0 := blk_cell K_b.out 0; simp at c_b_0
  have c_b_1 := blk_cell K_b.out 1; simp at c_b_1
  have c_c_0 := blk_cell K_c.out 0; simp at c_c_0
  have c_c_1 := blk_cell K_c.out 1; simp at c_c_1
  go_wp2_with fail
  refine (less_any _ _ _ _ _).mono ?_; rintro e w4 ⟨rfl, hb⟩
  rw [e3]
  clear c_b_0 c_b_1
  clear c_c_0 c_c_1
  have z4 := hb.size
  replace B := below_after B hb (by first | omega | (simp; done) | (simp; omega))
  replace K_a := Lib.hid (blk_below K_a.out hb (by first | omega | (simp; done) | (simp; omega)))
  replace K_b := Lib.hid (blk_below K_b.out hb (by first | omega | (simp; done) | (simp; omega)))
  replace K_c := Lib.hid (blk_below K_c.out hb (by first | omega | (simp; done) | (simp; omega)))
  clear hb
  have c_a_0 := blk_cell K_a.out 0; simp at c_a_0
  have c_a_1 := blk_cell K_a.out 1; simp at c_a_1
  have c_c_0 := blk_cell K_c.out 0; simp at c_c_0
  have c_c_1 := blk_cell K_c.out 1; simp at c_c_1
  go_wp2_with fail
  refine (less_any _ _ _ _ _).mono ?_; rintro e w5 ⟨rfl, hb⟩
  rw [e4]
  clear c_a_0 c_a_1
  clear c_c_0 c_c_1
  have z5 := hb.size
  replace B := below_after B hb (by first | omega | (simp; done) | (simp; omega))
  replace K_a := Lib.hid (blk_below K_a.out hb (by first | omega | (simp; done) | (simp; omega)))
  replace K_b := Lib.hid (blk_below K_b.out hb (by first | omega | (simp; done) | (simp; omega)))
  replace K_c := Lib.hid (blk_below K_c.out hb (by first | omega | (simp; done) | (simp; omega)))
  clear hb
  have c_a_0 := blk_cell K_a.out 0; simp at c_a_0
  have c_a_1 := blk_cell K_a.out 1; simp at c_a_1
  have c_b_0 := blk_cell K_b.out 0; simp at c_b_0
  have c_b_1 := blk_cell K_b.out 1; simp at c_b_1
  have c_c_0 := blk_cell K_c.out 0; simp at c_c_0
  have c_c_1 := blk_cell K_c.out 1; simp at c_c_1
  go_wp2_with fail
  refine (add_any _ _ _ _ _).mono ?_; rintro e w6 ⟨rfl, hb⟩
  clear c_c_0 c_c_1
  have z6 := hb.size
  replace B := below_after B hb (by first | omega | (simp; done) | (simp; omega))
  replace K_a := Lib.hid (blk_below K_a.out hb (by first | omega | (simp; done) | (simp; omega)))
  replace K_b := Lib.hid (blk_below K_b.out hb (by first | omega | (simp; done) | (simp; omega)))
  replace K_c := Lib.hid (blk_below K_c.out hb (by first | omega | (simp; done) | (simp; omega)))
  clear hb
  clear c_a_0 c_a_1 c_b_0 c_b_1
  have l_b : w.heap.size + 1 < w6.heap.size := by omega
  have c_b_0 := blk_cell K_b.out 0; simp at c_b_0
  have c_b_1 := blk_cell K_b.out 1; simp at c_b_1
  have l_c : w.heap.size + 1 + 1 < w6.heap.size := by omega
  have c_c_0 := blk_cell K_c.out 0; simp at c_c_0
  have c_c_1 := blk_cell K_c.out 1; simp at c_c_1
  go_wp2_with fail
  refine (add_any _ _ _ _ _).mono ?_; rintro e w7 ⟨rfl, hb⟩
  clear c_b_0 c_b_1 l_b
  clear c_c_0 c_c_1 l_c
  have z7 := hb.size; simp at z7
  replace B := below_after (B.alloc (by first | omega | (simp; done) | (simp; omega)) _) hb (by first | omega | (simp; done) | (simp; omega))
  replace K_a := Lib.hid (blk_below (blk_alloc K_a.out _) hb (by first | omega | (simp; done) | (simp; omega)))
  replace K_b := Lib.hid (blk_below (blk_alloc K_b.out _) hb (by first | omega | (simp; done) | (simp; omega)))
  replace K_c := Lib.hid (blk_below (blk_alloc K_c.out _) hb (by first | omega | (simp; done) | (simp; omega)))
  have K_x := blk_below (blk_new _ _) hb (by first | omega | (simp; done) | (simp; omega))
  replace K_x := Lib.hid K_x
  clear hb
  have l_x : w6.heap.size < w7.heap.size := by omega
  have c_x_0 := blk_cell K_x.out 0; simp at c_x_0
  have c_x_1 := blk_cell K_x.out 1; simp at c_x_1
  go_wp2_with fail
  refine (less_any _ _ _ _ _).mono ?_; rintro e w8 ⟨rfl, hb⟩
  rw [s1, s2]
  clear c_x_0 c_x_1 l_x
  have z8 := hb.size; simp at z8
  replace B := below_after (B.alloc (by first | omega | (simp; done) | (simp; omega)) _) hb (by first | omega | (simp; done) | (simp; omega))
  replace K_a := Lib.hid (blk_below (blk_alloc K_a.out _) hb (by first | omega | (simp; done) | (simp; omega)))
  replace K_b := Lib.hid (blk_below (blk_alloc K_b.out _) hb (by first | omega | (simp; done) | (simp; omega)))
  replace K_c := Lib.hid (blk_below (blk_alloc K_c.out _) hb (by first | omega | (simp; done) | (simp; omega)))
  replace K_x := Lib.hid (blk_below (blk_alloc K_x.out _) hb (by first | omega | (simp; done) | (simp; omega)))
  have K_y := blk_below (blk_new _ _) hb (by first | omega | (simp; done) | (simp; omega))
  replace K_y := Lib.hid K_y
  clear hb
  have c_a_0 := blk_cell K_a.out 0; simp at c_a_0
  have c_a_1 := blk_cell K_a.out 1; simp at c_a_1
  have c_c_0 := blk_cell K_c.out 0; simp at c_c_0
  have c_c_1 := blk_cell K_c.out 1; simp at c_c_1
  go_wp2_with fail
  refine (mul_any _ _ _ _ _).mono ?_; rintro e w9 ⟨rfl, hb⟩
  clear c_a_0 c_a_1
  clear c_c_0 c_c_1
  have z9 := hb.size
  replace B := below_after B hb (by first | omega | (simp; done) | (simp; omega))
  replace K_a := Lib.hid (blk_below K_a.out hb (by first | omega | (simp; done) | (simp; omega)))
  replace K_b := Lib.hid (blk_below K_b.out hb (by first | omega | (simp; done) | (simp; omega)))
  replace K_c := Lib.hid (blk_below K_c.out hb (by first | omega | (simp; done) | (simp; omega)))
  replace K_x := Lib.hid (blk_below K_x.out hb (by first | omega | (simp; done) | (simp; omega)))
  replace K_y := Lib.hid (blk_below K_y.out hb (by first | omega | (simp; done) | (simp; omega)))
  clear hb
  have l_b : w.heap.size + 1 < w9.heap.size := by omega
  have c_b_0 := blk_cell K_b.out 0; simp at c_b_0
  have c_b_1 := blk_cell K_b.out 1; simp at c_b_1
  have l_c : w.heap.size + 1 + 1 < w9.heap.size := by omega
  have c_c_0 := blk_cell K_c.out 0; simp at c_c_0
  have c_c_1 := blk_cell K_c.out 1; simp at c_c_1
  go_wp2_with fail
  refine (mul_any _ _ _ _ _).mono ?_; rintro e w10 ⟨rfl, hb⟩
  clear c_b_0 c_b_1 l_b
  clear c_c_0 c_c_1 l_c
  have z10 := hb.size; simp at z10
  replace B := below_after (B.alloc (by first | omega | (simp; done) | (simp; omega)) _) hb (by first | omega | (simp; done) | (simp; omega))
  replace K_a := Lib.hid (blk_below (blk_alloc K_a.out _) hb (by first | omega | (simp; done) | (simp; omega)))
  replace K_b := Lib.hid (blk_below (blk_alloc K_b.out _) hb (by first | omega | (simp; done) | (simp; omega)))
  replace K_c := Lib.hid (blk_below (blk_alloc K_c.out _) hb (by first | omega | (simp; done) | (simp; omega)))
  replace K_x := Lib.hid (blk_below (blk_alloc K_x.out _) hb (by first | omega | (simp; done) | (simp; omega)))
  replace K_y := Lib.hid (blk_below (blk_alloc K_y.out _) hb (by first | omega | (simp; done) | (simp; omega)))
  have K_p := blk_below (blk_new _ _) hb (by first | omega | (simp; done) | (simp; omega))
  replace K_p := Lib.hid K_p
  clear hb
  have l_c : w.heap.size + 1 + 1 < w10.heap.size := by omega
  have c_c_0 := blk_cell K_c.out 0; simp at c_c_0
  have c_c_1 := blk_cell K_c.out 1; simp at c_c_1
  go_wp2
  go_ret
  exact ⟨by simp, B.alloc (by first | omega | (simp; done) | (simp; omega)) _⟩

set_option maxRecDepth 100000 in
set_option maxHeartbeats 4000000 in
theorem rationalOrder_lt0_tt_fnn (an ad bn bd cn cd : Int) (va : Valid an ad) (vb : Valid bn bd) (vc : Valid cn cd) (hab : lessV an ad bn bd = true) (hba : lessV bn bd an ad = false) (hbc : lessV bn bd cn cd = false) (hne : ¬ an = bn) (hi : addE an ad cn cd = 0) (hj : addE bn bd cn cd = 0) (hmi : mulE an ad cn cd ≠ 0) (w : World) :
    Calls Try.prog 8 #[.agg #[.int .i64 an, .int .i64 ad], .agg #[.int .i64 bn, .int .i64 bd], .agg #[.int .i64 cn, .int .i64 cd]] w fun e w' => e = .returned (.bool true) ∧ Below w.heap.size w w' := by
  have e1 : lessE an ad bn bd = 0 := if_pos ⟨va, vb⟩
  have e2 : lessE bn bd an ad = 0 := if_pos ⟨vb, va⟩
  have e3 : lessE bn bd cn cd = 0 := if_pos ⟨vb, vc⟩
  have e4 : lessE an ad cn cd = 0 := if_pos ⟨va, vc⟩
  have ti : (addE an ad cn cd == 0) = true := by simpa using hi
  have ui : (addE an ad cn cd != 0) = false := by simpa using hi
  have tj : (addE bn bd cn cd == 0) = true := by simpa using hj
  have uj : (addE bn bd cn cd != 0) = false := by simpa using hj
  have tmi : (mulE an ad cn cd == 0) = false := by simpa using hmi
  have umi : (mulE an ad cn cd != 0) = true := by simpa using hmi
  obtain ⟨s1, s2⟩ := less_add va vb vc hi hj
  rw [hab] at s1
  clear va vc vb hi hj hmi
  have B := Below.refl w.heap.size w
  go_enter Try.func8, Try.ntmps8
  go_wp2_with fail
  refine (sane_any _).mono ?_; rintro e w1 ⟨rfl, hb⟩
  have z1 := hb.size; simp at z1
  replace B := below_after (((B.alloc (by first | omega | (simp; done) | (simp; omega)) _).alloc (by first | omega | (simp; done) | (simp; omega)) _).alloc (by first | omega | (simp; done) | (simp; omega)) _) hb (by first | omega | (simp; done) | (simp; omega))
  have K_a := blk_below (blk_alloc (blk_alloc (blk_new _ _) _) _) hb (by first | omega | (simp; done) | (simp; omega))
  replace K_a := Lib.hid K_a
  have K_b := blk_below (blk_alloc (blk_new _ _) _) hb (by first | omega | (simp; done) | (simp; omega))
  rw [World.size_alloc] at K_b
  replace K_b := Lib.hid K_b
  have K_c := blk_below (blk_new _ _) hb (by first | omega | (simp; done) | (simp; omega))
  rw [World.size_alloc, World.size_alloc] at K_c
  replace K_c := Lib.hid K_c
  clear hb
  have c_a_0 := blk_cell K_a.out 0; simp at c_a_0
  have c_a_1 := blk_cell K_a.out 1; simp at c_a_1
  have c_b_0 := blk_cell K_b.out 0; simp at c_b_0
  have c_b_1 := blk_cell K_b.out 1; simp at c_b_1
  go_wp2_with fail
  refine (less_any _ _ _ _ _).mono ?_; rintro e w2 ⟨rfl, hb⟩
  rw [e1]
  clear c_a_0 c_a_1
  clear c_b_0 c_b_1
  have z2 := hb.size
  replace B := below_after B hb (by first | omega | (simp; done) | (simp; omega))
  replace K_a := Lib.hid (blk_below K_a.out hb (by first | omega | (simp; done) | (simp; omega)))
  replace K_b := Lib.hid (blk_below K_b.out hb (by first | omega | (simp; done) | (simp; omega)))
  replace K_c := Lib.hid (blk_below K_c.out hb (by first | omega | (simp; done) | (simp; omega)))
  clear hb
  have c_b_0 := blk_cell K_b.out 0; simp at c_b_0
  have c_b_1 := blk_cell K_b.out 1; simp at c_b_1
  have c_a_0 := blk_cell K_a.out 0; simp at c_a_0
  have c_a_1 := blk_cell K_a.out 1; simp at c_a_1
  go_wp2_with fail
  refine (less_any _ _ _ _ _).mono ?_; rintro e w3 ⟨rfl, hb⟩
  rw [e2]
  clear c_b_0 c_b_1
  clear c_a_0 c_a_1
  have z3 := hb.size
  replace B := below_after B hb (by first | omega | (simp; done) | (simp; omega))
  replace K_a := Lib.hid (blk_below K_a.out hb (by first | omega | (simp; done) | (simp; omega)))
  replace K_b := Lib.hid (blk_below K_b.out hb (by first | omega | (simp; done) | (simp; omega)))
  replace K_c := Lib.hid (blk_below K_c.out hb (by first | omega | (simp; done) | (simp; omega)))
  clear hb
  have c_b_0 := blk_cell K_b.out 0; simp at c_b_0
  have c_b_1 := blk_cell K_b.out 1; simp at c_b_1
  have c_c_0 := blk_cell K_c.out 0; simp at c_c_0
  have c_c_1 := blk_cell K_c.out 1; simp at c_c_1
  go_wp2_with fail
  refine (less_any _ _ _ _ _).mono ?_; rintro e w4 ⟨rfl, hb⟩
  rw [e3]
  clear c_b_0 c_b_1
  clear c_c_0 c_c_1
  have z4 := hb.size
  replace B := below_after B hb (by first | omega | (simp; done) | (simp; omega))
  replace K_a := Lib.hid (blk_below K_a.out hb (by first | omega | (simp; done) | (simp; omega)))
  replace K_b := Lib.hid (blk_below K_b.out hb (by first | omega | (simp; done) | (simp; omega)))
  replace K_c := Lib.hid (blk_below K_c.out hb (by first | omega | (simp; done) | (simp; omega)))
  clear hb
  have c_a_0 := blk_cell K_a.out 0; simp at c_a_0
  have c_a_1 := blk_cell K_a.out 1; simp at c_a_1
  have c_c_0 := blk_cell K_c.out 0; simp at c_c_0
  have c_c_1 := blk_cell K_c.out 1; simp at c_c_1
  go_wp2_with fail
  refine (less_any _ _ _ _ _).mono ?_; rintro e w5 ⟨rfl, hb⟩
  rw [e4]
  clear c_a_0 c_a_1
  clear c_c_0 c_c_1
  have z5 := hb.size
  replace B := below_after B hb (by first | omega | (simp; done) | (simp; omega))
  replace K_a := Lib.hid (blk_below K_a.out hb (by first | omega | (simp; done) | (simp; omega)))
  replace K_b := Lib.hid (blk_below K_b.out hb (by first | omega | (simp; done) | (simp; omega)))
  replace K_c := Lib.hid (blk_below K_c.out hb (by first | omega | (simp; done) | (simp; omega)))
  clear hb
  have c_a_0 := blk_cell K_a.out 0; simp at c_a_0
  have c_a_1 := blk_cell K_a.out 1; simp at c_a_1
  have c_b_0 := blk_cell K_b.out 0; simp at c_b_0
  have c_b_1 := blk_cell K_b.out 1; simp at c_b_1
  have c_c_0 := blk_cell K_c.out 0; simp at c_c_0
  have c_c_1 := blk_cell K_c.out 1; simp at c_c_1
  go_wp2_with fail
  refine (add_any _ _ _ _ _).mono ?_; rintro e w6 ⟨rfl, hb⟩
  clear c_c_0 c_c_1
  have z6 := hb.size
  replace B := below_after B hb (by first | omega | (simp; done) | (simp; omega))
  replace K_a := Lib.hid (blk_below K_a.out hb (by first | omega | (simp; done) | (simp; omega)))
  replace K_b := Lib.hid (blk_below K_b.out hb (by first | omega | (simp; done) | (simp; omega)))
  replace K_c := Lib.hid (blk_below K_c.out hb (by first | omega | (simp; done) | (simp; omega)))
  clear hb
  clear c_a_0 c_a_1 c_b_0 c_b_1
  have l_b : w.heap.size + 1 < w6.heap.size := by omega
  have c_b_0 := blk_cell K_b.out 0; simp at c_b_0
  have c_b_1 := blk_cell K_b.out 1; simp at c_b_1
  have l_c : w.heap.size + 1 + 1 < w6.heap.size := by omega
  have c_c_0 := blk_cell K_c.out 0; simp at c_c_0
  have c_c_1 := blk_cell K_c.out 1; simp at c_c_1
  go_wp2_with fail
  refine (add_any _ _ _ _ _).mono ?_; rintro e w7 ⟨rfl, hb⟩
  clear c_b_0 c_b_1 l_b
  clear c_c_0 c_c_1 l_c
  have z7 := hb.size; simp at z7
  replace B := below_after (B.alloc (by first | omega | (simp; done) | (simp; omega)) _) hb (by first | omega | (simp; done) | (simp; omega))
  replace K_a := Lib.hid (blk_below (blk_alloc K_a.out _) hb (by first | omega | (simp; done) | (simp; omega)))
  replace K_b := Lib.hid (blk_below (blk_alloc K_b.out _) hb (by first | omega | (simp; done) | (simp; omega)))
  replace K_c := Lib.hid (blk_below (blk_alloc K_c.out _) hb (by first | omega | (simp; done) | (simp; omega)))
  have K_x := blk_below (blk_new _ _) hb (by first | omega | (simp; done) | (simp; omega))
  replace K_x := Lib.hid K_x
  clear hb
  have l_x : w6.heap.size < w7.heap.size := by omega
  have c_x_0 := blk_cell K_x.out 0; simp at c_x_0
  have c_x_1 := blk_cell K_x.out 1; simp at c_x_1
  go_wp2_with fail
  refine (less_any _ _ _ _ _).mono ?_; rintro e w8 ⟨rfl, hb⟩
  rw [s1, s2]
  clear c_x_0 c_x_1 l_x
  have z8 := hb.size; simp at z8
  replace B := below_after (B.alloc (by first | omega | (simp; done) | (simp; omega)) _) hb (by first | omega | (simp; done) | (simp; omega))
  replace K_a := Lib.hid (blk_below (blk_alloc K_a.out _) hb (by first | omega | (simp; done) | (simp; omega)))
  replace K_b := Lib.hid (blk_below (blk_alloc K_b.out _) hb (by first | omega | (simp; done) | (simp; omega)))
  replace K_c := Lib.hid (blk_below (blk_alloc K_c.out _) hb (by first | omega | (simp; done) | (simp; omega)))
  replace K_x := Lib.hid (blk_below (blk_alloc K_x.out _) hb (by first | omega | (simp; done) | (simp; omega)))
  have K_y := blk_below (blk_new _ _) hb (by first | omega | (simp; done) | (simp; omega))
  replace K_y := Lib.hid K_y
  clear hb
  have c_a_0 := blk_cell K_a.out 0; simp at c_a_0
  have c_a_1 := blk_cell K_a.out 1; simp at c_a_1
  have c_c_0 := blk_cell K_c.out 0; simp at c_c_0
  have c_c_1 := blk_cell K_c.out 1; simp at c_c_1
  go_wp2_with fail
  refine (mul_any _ _ _ _ _).mono ?_; rintro e w9 ⟨rfl, hb⟩
  clear c_a_0 c_a_1
  clear c_c_0 c_c_1
  have z9 := hb.size
  replace B := below_after B hb (by first | omega | (simp; done) | (simp; omega))
  replace K_a := Lib.hid (blk_below K_a.out hb (by first | omega | (simp; done) | (simp; omega)))
  replace K_b := Lib.hid (blk_below K_b.out hb (by first | omega | (simp; done) | (simp; omega)))
  replace K_c := Lib.hid (blk_below K_c.out hb (by first | omega | (simp; done) | (simp; omega)))
  replace K_x := Lib.hid (blk_below K_x.out hb (by first | omega | (simp; done) | (simp; omega)))
  replace K_y := Lib.hid (blk_below K_y.out hb (by first | omega | (simp; done) | (simp; omega)))
  clear hb
  have l_b : w.heap.size + 1 < w9.heap.size := by omega
  have c_b_0 := blk_cell K_b.out 0; simp at c_b_0
  have c_b_1 := blk_cell K_b.out 1; simp at c_b_1
  have l_c : w.heap.size + 1 + 1 < w9.heap.size := by omega
  have c_c_0 := blk_cell K_c.out 0; simp at c_c_0
  have c_c_1 := blk_cell K_c.out 1; simp at c_c_1
  go_wp2_with fail
  refine (mul_any _ _ _ _ _).mono ?_; rintro e w10 ⟨rfl, hb⟩
  clear c_b_0 c_b_1 l_b
  clear c_c_0 c_c_1 l_c
  have z10 := hb.size; simp at z10
  replace B := below_after (B.alloc (by first | omega | (simp; done) | (simp; omega)) _) hb (by first | omega | (simp; done) | (simp; omega))
  replace K_a := Lib.hid (blk_below (blk_alloc K_a.out _) hb (by first | omega | (simp; done) | (simp; omega)))
  replace K_b := Lib.hid (blk_below (blk_alloc K_b.out _) hb (by first | omega | (simp; done) | (simp; omega)))
  replace K_c := Lib.hid (blk_below (blk_alloc K_c.out _) hb (by first | omega | (simp; done) | (simp; omega)))
  replace K_x := Lib.hid (blk_below (blk_alloc K_x.out _) hb (by first | omega | (simp; done) | (simp; omega)))
  replace K_y := Lib.hid (blk_below (blk_alloc K_y.out _) hb (by first | omega | (simp; done) | (simp; omega)))
  have K_p := blk_below (blk_new _ _) hb (by first | omega | (simp; done) | (simp; omega))
  replace K_p := Lib.hid K_p
  clear hb
  go_wp2
  go_ret
  exact ⟨by simp, B.alloc (by first | omega | (simp; done) | (simp; omega)) _⟩

set_option maxRecDepth 100000 in
set_option maxHeartbeats 4000000 in
theorem rationalOrder_lt0_tf_ttf (an ad bn bd cn cd : Int) (va : Valid an ad) (vb : Valid bn bd) (vc : Valid cn cd) (hab : lessV an ad bn bd = true) (hba : lessV bn bd an ad = false) (hbc : lessV bn bd cn cd = false) (hne : ¬ an = bn) (hi : addE an ad cn cd = 0) (hj : addE bn bd cn cd ≠ 0) (hmi : mulE an ad cn cd = 0) (hmj : mulE bn bd cn cd = 0) (hp : cn ≤ 0) (w : World) :
    Calls Try.prog 8 #[.agg #[.int .i64 an, .int .i64 ad], .agg #[.int .i64 bn, .int .i64 bd], .agg #[.int .i64 cn, .int .i64 cd]] w fun e w' => e = .returned (.bool true) ∧ Below w.heap.size w w' := by
  have e1 : lessE an ad bn bd = 0 := if_pos ⟨va, vb⟩
  have e2 : lessE bn bd an ad = 0 := if_pos ⟨vb, va⟩
  have e3 : lessE bn bd cn cd = 0 := if_pos ⟨vb, vc⟩
  have e4 : lessE an ad cn cd = 0 := if_pos ⟨va, vc⟩
  have ti : (addE an ad cn cd == 0) = true := by simpa using hi
  have ui : (addE an ad cn cd != 0) = false := by simpa using hi
  have tj : (addE bn bd cn cd == 0) = false := by simpa using hj
  have uj : (addE bn bd cn cd != 0) = true := by simpa using hj
  have tmi : (mulE an ad cn cd == 0) = true := by simpa using hmi
  have umi : (mulE an ad cn cd != 0) = false := by simpa using hmi
  have tmj : (mulE bn bd cn cd == 0) = true := by simpa using hmj
  have umj : (mulE bn bd cn cd != 0) = false := by simpa using hmj
  clear va vc vb hi hj hmi hmj
  have B := Below.refl w.heap.size w
  go_enter Try.func8, Try.ntmps8
  go_wp2_with fail
  refine (sane_any _).mono ?_; rintro e w1 ⟨rfl, hb⟩
  have z1 := hb.size; simp at z1
  replace B := below_after (((B.alloc (by first | omega | (simp; done) | (simp; omega)) _).alloc (by first | omega | (simp; done) | (simp; omega)) _).alloc (by first | omega | (simp; done) | (simp; omega)) _) hb (by first | omega | (simp; done) | (simp; omega))
  have K_a := blk_below (blk_alloc (blk_alloc (blk_new _ _) _) _) hb (by first | omega | (simp; done) | (simp; omega))
  replace K_a := Lib.hid K_a
  have K_b := blk_below (blk_alloc (blk_new _ _) _) hb (by first | omega | (simp; done) | (simp; omega))
  rw [World.size_alloc] at K_b
  replace K_b := Lib.hid K_b
  have K_c := blk_below (blk_new _ _) hb (by first | omega | (simp; done) | (simp; omega))
  rw [World.size_alloc, World.size_alloc] at K_c
  replace K_c := Lib.hid K_c
  clear hb
  have c_a_0 := blk_cell K_a.out 0; simp at c_a_0
  have c_a_1 := blk_cell K_a.out 1; simp at c_a_1
  have c_b_0 := blk_cell K_b.out 0; simp at c_b_0
  have c_b_1 := blk_cell K_b.out 1; simp at c_b_1
  go_wp2_with fail
  refine (less_any _ _ _ _ _).mono ?_; rintro e w2 ⟨rfl, hb⟩
  rw [e1]
  clear c_a_0 c_a_1
  clear c_b_0 c_b_1
  have z2 := hb.size
  replace B := below_after B hb (by first | omega | (simp; done) | (simp; omega))
  replace K_a := Lib.hid (blk_below K_a.out hb (by first | omega | (simp; done) | (simp; omega)))
  replace K_b := Lib.hid (blk_below K_b.out hb (by first | omega | (simp; done) | (simp; omega)))
  replace K_c := Lib.hid (blk_below K_c.out hb (by first | omega | (simp; done) | (simp; omega)))
  clear hb
  have c_b_0 := blk_cell K_b.out 0; simp at c_b_0
  have c_b_1 := blk_cell K_b.out 1; simp at c_b_1
  have c_a_0 := blk_cell K_a.out 0; simp at c_a_0
  have c_a_1 := blk_cell K_a.out 1; simp at c_a_1
  go_wp2_with fail
  refine (less_any _ _ _ _ _).mono ?_; rintro e w3 ⟨rfl, hb⟩
  rw [e2]
  clear c_b_0 c_b_1
  clear c_a_0 c_a_1
  have z3 := hb.size
  replace B := below_after B hb (by first | omega | (simp; done) | (simp; omega))
  replace K_a := Lib.hid (blk_below K_a.out hb (by first | omega | (simp; done) | (simp; omega)))
  replace K_b := Lib.hid (blk_below K_b.out hb (by first | omega | (simp; done) | (simp; omega)))
  replace K_c := Lib.hid (blk_below K_c.out hb (by first | omega | (simp; done) | (simp; omega)))
  clear hb
  have c_b_0 := blk_cell K_b.out 0; simp at c_b_0
  have c_b_1 := blk_cell K_b.out 1; simp at c_b_1
  have c_c_0 := blk_cell K_c.out 0; simp at c_c_0
  have c_c_1 := blk_cell K_c.out 1; simp at c_c_1
  go_wp2_with fail
  refine (less_any _ _ _ _ _).mono ?_; rintro e w4 ⟨rfl, hb⟩
  rw [e3]
  clear c_b_0 c_b_1
  clear c_c_0 c_c_1
  have z4 := hb.size
  replace B := below_after B hb (by first | omega | (simp; done) | (simp; omega))
  replace K_a := Lib.hid (blk_below K_a.out hb (by first | omega | (simp; done) | (simp; omega)))
  replace K_b := Lib.hid (blk_below K_b.out hb (by first | omega | (simp; done) | (simp; omega)))
  replace K_c := Lib.hid (blk_below K_c.out hb (by first | omega | (simp; done) | (simp; omega)))
  clear hb
  have c_a_0 := blk_cell K_a.out 0; simp at c_a_0
  have c_a_1 := blk_cell K_a.out 1; simp at c_a_1
  have c_c_0 := blk_cell K_c.out 0; simp at c_c_0
  have c_c_1 := blk_cell K_c.out 1; simp at c_c_1
  go_wp2_with fail
  refine (less_any _ _ _ _ _).mono ?_; rintro e w5 ⟨rfl, hb⟩
  rw [e4]
  clear c_a_0 c_a_1
  clear c_c_0 c_c_1
  have z5 := hb.size
  replace B := below_after B hb (by first | omega | (simp; done) | (simp; omega))
  replace K_a := Lib.hid (blk_below K_a.out hb (by first | omega | (simp; done) | (simp; omega)))
  replace K_b := Lib.hid (blk_below K_b.out hb (by first | omega | (simp; done) | (simp; omega)))
  replace K_c := Lib.hid (blk_below K_c.out hb (by first | omega | (simp; done) | (simp; omega)))
  clear hb
  have c_a_0 := blk_cell K_a.out 0; simp at c_a_0
  have c_a_1 := blk_cell K_a.out 1; simp at c_a_1
  have c_b_0 := blk_cell K_b.out 0; simp at c_b_0
  have c_b_1 := blk_cell K_b.out 1; simp at c_b_1
  have c_c_0 := blk_cell K_c.out 0; simp at c_c_0
  have c_c_1 := blk_cell K_c.out 1; simp at c_c_1
  go_wp2_with fail
  refine (add_any _ _ _ _ _).mono ?_; rintro e w6 ⟨rfl, hb⟩
  clear c_c_0 c_c_1
  have z6 := hb.size
  replace B := below_after B hb (by first | omega | (simp; done) | (simp; omega))
  replace K_a := Lib.hid (blk_below K_a.out hb (by first | omega | (simp; done) | (simp; omega)))
  replace K_b := Lib.hid (blk_below K_b.out hb (by first | omega | (simp; done) | (simp; omega)))
  replace K_c := Lib.hid (blk_below K_c.out hb (by first | omega | (simp; done) | (simp; omega)))
  clear hb
  clear c_a_0 c_a_1 c_b_0 c_b_1
  have l_b : w.heap.size + 1 < w6.heap.size := by omega
  have c_b_0 := blk_cell K_b.out 0; simp at c_b_0
  have c_b_1 := blk_cell K_b.out 1; simp at c_b_1
  have l_c : w.heap.size + 1 + 1 < w6.heap.size := by omega
  have c_c_0 := blk_cell K_c.out 0; simp at c_c_0
  have c_c_1 := blk_cell K_c.out 1; simp at c_c_1
  go_wp2_with fail
  refine (add_any _ _ _ _ _).mono ?_; rintro e w7 ⟨rfl, hb⟩
  clear c_b_0 c_b_1 l_b
  clear c_c_0 c_c_1 l_c
  have z7 := hb.size; simp at z7
  replace B := below_after (B.alloc (by first | omega | (simp; done) | (simp; omega)) _) hb (by first | omega | (simp; done) | (simp; omega))
  replace K_a := Lib.hid (blk_below (blk_alloc K_a.out _) hb (by first | omega | (simp; done) | (simp; omega)))
  replace K_b := Lib.hid (blk_below (blk_alloc K_b.out _) hb (by first | omega | (simp; done) | (simp; omega)))
  replace K_c := Lib.hid (blk_below (blk_alloc K_c.out _) hb (by first | omega | (simp; done) | (simp; omega)))
  have K_x := blk_below (blk_new _ _) hb (by first | omega | (simp; done) | (simp; omega))
  replace K_x := Lib.hid K_x
  clear hb
  have l_a : w.heap.size < w7.heap.size := by omega
  have c_a_0 := blk_cell K_a.out 0; simp at c_a_0
  have c_a_1 := blk_cell K_a.out 1; simp at c_a_1
  have l_c : w.heap.size + 1 + 1 < w7.heap.size := by omega
  have c_c_0 := blk_cell K_c.out 0; simp at c_c_0
  have c_c_1 := blk_cell K_c.out 1; simp at c_c_1
  go_wp2_with fail
  refine (mul_any _ _ _ _ _).mono ?_; rintro e w8 ⟨rfl, hb⟩
  clear c_a_0 c_a_1 l_a
  clear c_c_0 c_c_1 l_c
  have z8 := hb.size; simp at z8
  replace B := below_after (B.alloc (by first | omega | (simp; done) | (simp; omega)) _) hb (by first | omega | (simp; done) | (simp; omega))
  replace K_a := Lib.hid (blk_below (blk_alloc K_a.out _) hb (by first | omega | (simp; done) | (simp; omega)))
  replace K_b := Lib.hid (blk_below (blk_alloc K_b.out _) hb (by first | omega | (simp; done) | (simp; omega)))
  replace K_c := Lib.hid (blk_below (blk_alloc K_c.out _) hb (by first | omega | (simp; done) | (simp; omega)))
  replace K_x := Lib.hid (blk_below (blk_alloc K_x.out _) hb (by first | omega | (simp; done) | (simp; omega)))
  have K_y := blk_below (blk_new _ _) hb (by first | omega | (simp; done) | (simp; omega))
  replace K_y := Lib.hid K_y
  clear hb
  have l_b : w.heap.size + 1 < w8.heap.size := by omega
  have c_b_0 := blk_cell K_b.out 0; simp at c_b_0
  have c_b_1 := blk_cell K_b.out 1; simp at c_b_1
  have l_c : w.heap.size + 1 + 1 < w8.heap.size := by omega
  have c_c_0 := blk_cell K_c.out 0; simp at c_c_0
  have c_c_1 := blk_cell K_c.out 1; simp at c_c_1
  go_wp2_with fail
  refine (mul_any _ _ _ _ _).mono ?_; rintro e w9 ⟨rfl, hb⟩
  clear c_b_0 c_b_1 l_b
  clear c_c_0 c_c_1 l_c
  have z9 := hb.size; simp at z9
  replace B := below_after (B.alloc (by first | omega | (simp; done) | (simp; omega)) _) hb (by first | omega | (simp; done) | (simp; omega))
  replace K_a := Lib.hid (blk_below (blk_alloc K_a.out _) hb (by first | omega | (simp; done) | (simp; omega)))
  replace K_b := Lib.hid (blk_below (blk_alloc K_b.out _) hb (by first | omega | (simp; done) | (simp; omega)))
  replace K_c := Lib.hid (blk_below (blk_alloc K_c.out _) hb (by first | omega | (simp; done) | (simp; omega)))
  replace K_x := Lib.hid (blk_below (blk_alloc K_x.out _) hb (by first | omega | (simp; done) | (simp; omega)))
  replace K_y := Lib.hid (blk_below (blk_alloc K_y.out _) hb (by first | omega | (simp; done) | (simp; omega)))
  have K_p := blk_below (blk_new _ _) hb (by first | omega | (simp; done) | (simp; omega))
  replace K_p := Lib.hid K_p
  clear hb
  have l_c : w.heap.size + 1 + 1 < w9.heap.size := by omega
  have c_c_0 := blk_cell K_c.out 0; simp at c_c_0
  have c_c_1 := blk_cell K_c.out 1; simp at c_c_1
  go_wp2
  go_ret
  exact ⟨by simp, B.alloc (by first | omega | (simp; done) | (simp; omega)) _⟩

set_option maxRecDepth 100000 in
set_option maxHeartbeats 4000000 in
theorem rationalOrder_lt0_tf_fnn (an ad bn bd cn cd : Int) (va : Valid an ad) (vb : Valid bn bd) (vc : Valid cn cd) (hab : lessV an ad bn bd = true) (hba : lessV bn bd an ad = false) (hbc : lessV bn bd cn cd = false) (hne : ¬ an = bn) (hi : addE an ad cn cd = 0) (hj : addE bn bd cn cd ≠ 0) (hmi : mulE an ad cn cd ≠ 0) (w : World) :
    Calls Try.prog 8 #[.agg #[.int .i64 an, .int .i64 ad], .agg #[.int .i64 bn, .int .i64 bd], .agg #[.int .i64 cn, .int .i64 cd]] w fun e w' => e = .returned (.bool true) ∧ Below w.heap.size w w' := by
  have e1 : lessE an ad bn bd = 0 := if_pos ⟨va, vb⟩
  have e2 : lessE bn bd an ad = 0 := if_pos ⟨vb, va⟩
  have e3 : lessE bn bd cn cd = 0 := if_pos ⟨vb, vc⟩
  have e4 : lessE an ad cn cd = 0 := if_pos ⟨va, vc⟩
  have ti : (addE an ad cn cd == 0) = true := by simpa using hi
  have ui : (addE an ad cn cd != 0) = false := by simpa using hi
  have tj : (addE bn bd cn cd == 0) = false := by simpa using hj
  have uj : (addE bn bd cn cd != 0) = true := by simpa using hj
  have tmi : (mulE an ad cn cd == 0) = false := by simpa using hmi
  have umi : (mulE an ad cn cd != 0) = true := by simpa using hmi
  clear va vc vb hi hj hmi
  have B := Below.refl w.heap.size w
  go_enter Try.func8, Try.ntmps8
  go_wp2_with fail
  refine (sane_any _).mono ?_; rintro e w1 ⟨rfl, hb⟩
  have z1 := hb.size; simp at z1
  replace B := below_after (((B.alloc (by first | omega | (simp; done) | (simp; omega)) _).alloc (by first | omega | (simp; done) | (simp; omega)) _).alloc (by first | omega | (simp; done) | (simp; omega)) _) hb (by first | omega | (simp; done) | (simp; omega))
  have K_a := blk_below (blk_alloc (blk_alloc (blk_new _ _) _) _) hb (by first | omega | (simp; done) | (simp; omega))
  replace K_a := Lib.hid K_a
  have K_b := blk_below (blk_alloc (blk_new _ _) _) hb (by first | omega | (simp; done) | (simp; omega))
  rw [World.size_alloc] at K_b
  replace K_b := Lib.hid K_b
  have K_c := blk_below (blk_new _ _) hb (by first | omega | (simp; done) | (simp; omega))
  rw [World.size_alloc, World.size_alloc] at K_c
  replace K_c := Lib.hid K_c
  clear hb
  have c_a_0 := blk_cell K_a.out 0; simp at c_a_0
  have c_a_1 := blk_cell K_a.out 1; simp at c_a_1
  have c_b_0 := blk_cell K_b.out 0; simp at c_b_0
  have c_b_1 := blk_cell K_b.out 1; simp at c_b_1
  go_wp2_with fail
  refine (less_any _ _ _ _ _).mono ?_; rintro e w2 ⟨rfl, hb⟩
  rw [e1]
  clear c_a_0 c_a_1
  clear c_b_0 c_b_1
  have z2 := hb.size
  replace B := below_after B hb (by first | omega | (simp; done) | (simp; omega))
  replace K_a := Lib.hid (blk_below K_a.out hb (by first | omega | (simp; done) | (simp; omega)))
  replace K_b := Lib.hid (blk_below K_b.out hb (by first | omega | (simp; done) | (simp; omega)))
  replace K_c := Lib.hid (blk_below K_c.out hb (by first | omega | (simp; done) | (simp; omega)))
  clear hb
  have c_b_0 := blk_cell K_b.out 0; simp at c_b_0
  have c_b_1 := blk_cell K_b.out 1; simp at c_b_1
  have c_a_0 := blk_cell K_a.out 0; simp at c_a_0
  have c_a_1 := blk_cell K_a.out 1; simp at c_a_1
  go_wp2_with fail
  refine (less_any _ _ _ _ _).mono ?_; rintro e w3 ⟨rfl, hb⟩
  rw [e2]
  clear c_b_0 c_b_1
  clear c_a_0 c_a_1
  have z3 := hb.size
  replace B := below_after B hb (by first | omega | (simp; done) | (simp; omega))
  replace K_a := Lib.hid (blk_below K_a.out hb (by first | omega | (simp; done) | (simp; omega)))
  replace K_b := Lib.hid (blk_below K_b.out hb (by first | omega | (simp; done) | (simp; omega)))
  replace K_c := Lib.hid (blk_below K_c.out hb (by first | omega | (simp; done) | (simp; omega)))
  clear hb
  have c_b_0 := blk_cell K_b.out 0; simp at c_b_0
  have c_b_1 := blk_cell K_b.out 1; simp at c_b_1
  have c_c_0 := blk_cell K_c.out 0; simp at c_c_0
  have c_c_1 := blk_cell K_c.out 1; simp at c_c_1
  go_wp2_with fail
  refine (less_any _ _ _ _ _).mono ?_; rintro e w4 ⟨rfl, hb⟩
  rw [e3]
  clear c_b_0 c_b_1
  clear c_c_0 c_c_1
  have z4 := hb.size
  replace B := below_after B hb (by first | omega | (simp; done) | (simp; omega))
  replace K_a := Lib.hid (blk_below K_a.out hb (by first | omega | (simp; done) | (simp; omega)))
  replace K_b := Lib.hid (blk_below K_b.out hb (by first | omega | (simp; done) | (simp; omega)))
  replace K_c := Lib.hid (blk_below K_c.out hb (by first | omega | (simp; done) | (simp; omega)))
  clear hb
  have c_a_0 := blk_cell K_a.out 0; simp at c_a_0
  have c_a_1 := blk_cell K_a.out 1; simp at c_a_1
  have c_c_0 := blk_cell K_c.out 0; simp at c_c_0
  have c_c_1 := blk_cell K_c.out 1; simp at c_c_1
  go_wp2_with fail
  refine (less_any _ _ _ _ _).mono ?_; rintro e w5 ⟨rfl, hb⟩
  rw [e4]
  clear c_a_0 c_a_1
  clear c_c_0 c_c_1
  have z5 := hb.size
  replace B := below_after B hb (by first | omega | (simp; done) | (simp; omega))
  replace K_a := Lib.hid (blk_below K_a.out hb (by first | omega | (simp; done) | (simp; omega)))
  replace K_b := Lib.hid (blk_below K_b.out hb (by first | omega | (simp; done) | (simp; omega)))
  replace K_c := Lib.hid (blk_below K_c.out hb (by first | omega | (simp; done) | (simp; omega)))
  clear hb
  have c_a_0 := blk_cell K_a.out 0; simp at c_a_0
  have c_a_1 := blk_cell K_a.out 1; simp at c_a_1
  have c_b_0 := blk_cell K_b.out 0; simp at c_b_0
  have c_b_1 := blk_cell K_b.out 1; simp at c_b_1
  have c_c_0 := blk_cell K_c.out 0; simp at c_c_0
  have c_c_1 := blk_cell K_c.out 1; simp at c_c_1
  go_wp2_with fail
  refine (add_any _ _ _ _ _).mono ?_; rintro e w6 ⟨rfl, hb⟩
  clear c_c_0 c_c_1
  have z6 := hb.size
  replace B := below_after B hb (by first | omega | (simp; done) | (simp; omega))
  replace K_a := Lib.hid (blk_below K_a.out hb (by first | omega | (simp; done) | (simp; omega)))
  replace K_b := Lib.hid (blk_below K_b.out hb (by first | omega | (simp; done) | (simp; omega)))
  replace K_c := Lib.hid (blk_below K_c.out hb (by first | omega | (simp; done) | (simp; omega)))
  clear hb
  clear c_a_0 c_a_1 c_b_0 c_b_1
  have l_b : w.heap.size + 1 < w6.heap.size := by omega
  have c_b_0 := blk_cell K_b.out 0; simp at c_b_0
  have c_b_1 := blk_cell K_b.out 1; simp at c_b_1
  have l_c : w.heap.size + 1 + 1 < w6.heap.size := by omega
  have c_c_0 := blk_cell K_c.out 0; simp at c_c_0
  have c_c_1 := blk_cell K_c.out 1; simp at c_c_1
  go_wp2_with fail
  refine (add_any _ _ _ _ _).mono ?_; rintro e w7 ⟨rfl, hb⟩
  clear c_b_0 c_b_1 l_b
  clear c_c_0 c_c_1 l_c
  have z7 := hb.size; simp at z7
  replace B := below_after (B.alloc (by first | omega | (simp; done) | (simp; omega)) _) hb (by first | omega | (simp; done) | (simp; omega))
  replace K_a := Lib.hid (blk_below (blk_alloc K_a.out _) hb (by first | omega | (simp; done) | (simp; omega)))
  replace K_b := Lib.hid (blk_below (blk_alloc K_b.out _) hb (by first | omega | (simp; done) | (simp; omega)))
  replace K_c := Lib.hid (blk_below (blk_alloc K_c.out _) hb (by first | omega | (simp; done) | (simp; omega)))
  have K_x := blk_below (blk_new _ _) hb (by first | omega | (simp; done) | (simp; omega))
  replace K_x := Lib.hid K_x
  clear hb
  have l_a : w.heap.size < w7.heap.size := by omega
  have c_a_0 := blk_cell K_a.out 0; simp at c_a_0
  have c_a_1 := blk_cell K_a.out 1; simp at c_a_1
  have l_c : w.heap.size + 1 + 1 < w7.heap.size := by omega
  have c_c_0 := blk_cell K_c.out 0; simp at c_c_0
  have c_c_1 := blk_cell K_c.out 1; simp at c_c_1
  go_wp2_with fail
  refine (mul_any _ _ _ _ _).mono ?_; rintro e w8 ⟨rfl, hb⟩
  clear c_a_0 c_a_1 l_a
  clear c_c_0 c_c_1 l_c
  have z8 := hb.size; simp at z8
  replace B := below_after (B.alloc (by first | omega | (simp; done) | (simp; omega)) _) hb (by first | omega | (simp; done) | (simp; omega))
  replace K_a := Lib.hid (blk_below (blk_alloc K_a.out _) hb (by first | omega | (simp; done) | (simp; omega)))
  replace K_b := Lib.hid (blk_below (blk_alloc K_b.out _) hb (by first | omega | (simp; done) | (simp; omega)))
  replace K_c := Lib.hid (blk_below (blk_alloc K_c.out _) hb (by first | omega | (simp; done) | (simp; omega)))
  replace K_x := Lib.hid (blk_below (blk_alloc K_x.out _) hb (by first | omega | (simp; done) | (simp; omega)))
  have K_y := blk_below (blk_new _ _) hb (by first | omega | (simp; done) | (simp; omega))
  replace K_y := Lib.hid K_y
  clear hb
  have l_b : w.heap.size + 1 < w8.heap.size := by omega
  have c_b_0 := blk_cell K_b.out 0; simp at c_b_0
  have c_b_1 := blk_cell K_b.out 1; simp at c_b_1
  have l_c : w.heap.size + 1 + 1 < w8.heap.size := by omega
  have c_c_0 := blk_cell K_c.out 0; simp at c_c_0
  have c_c_1 := blk_cell K_c.out 1; simp at c_c_1
  go_wp2_with fail
  refine (mul_any _ _ _ _ _).mono ?_; rintro e w9 ⟨rfl, hb⟩
  clear c_b_0 c_b_1 l_b
  clear c_c_0 c_c_1 l_c
  have z9 := hb.size; simp at z9
  replace B := below_after (B.alloc (by first | omega | (simp; done) | (simp; omega)) _) hb (by first | omega | (simp; done) | (simp; omega))
  replace K_a := Lib.hid (blk_below (blk_alloc K_a.out _) hb (by first | omega | (simp; done) | (simp; omega)))
  replace K_b := Lib.hid (blk_below (blk_alloc K_b.out _) hb (by first | omega | (simp; done) | (simp; omega)))
  replace K_c := Lib.hid (blk_below (blk_alloc K_c.out _) hb (by first | omega | (simp; done) | (simp; omega)))
  replace K_x := Lib.hid (blk_below (blk_alloc K_x.out _) hb (by first | omega | (simp; done) | (simp; omega)))
  replace K_y := Lib.hid (blk_below (blk_alloc K_y.out _) hb (by first | omega | (simp; done) | (simp; omega)))
  have K_p := blk_below (blk_new _ _) hb (by first | omega | (simp; done) | (simp; omega))
  replace K_p := Lib.hid K_p
  clear hb
  go_wp2
  go_ret
  exact ⟨by simp, B.alloc (by first | omega | (simp; done) | (simp; omega)) _⟩

set_option maxRecDepth 100000 in
set_option maxHeartbeats 4000000 in
theorem rationalOrder_lt0_fn_ttf (an ad bn bd cn cd : Int) (va : Valid an ad) (vb : Valid bn bd) (vc : Valid cn cd) (hab : lessV an ad bn bd = true) (hba : lessV bn bd an ad = false) (hbc : lessV bn bd cn cd = false) (hne : ¬ an = bn) (hi : addE an ad cn cd ≠ 0) (hmi : mulE an ad cn cd = 0) (hmj : mulE bn bd cn cd = 0) (hp : cn ≤ 0) (w : World) :
    Calls Try.prog 8 #[.agg #[.int .i64 an, .int .i64 ad], .agg #[.int .i64 bn, .int .i64 bd], .agg #[.int .i64 cn, .int .i64 cd]] w fun e w' => e = .returned (.bool true) ∧ Below w.heap.size w w' := by
  have e1 : lessE an ad bn bd = 0 := if_pos ⟨va, vb⟩
  have e2 : lessE bn bd an ad = 0 := if_pos ⟨vb, va⟩
  have e3 : lessE bn bd cn cd = 0 := if_pos ⟨vb, vc⟩
  have e4 : lessE an ad cn cd = 0 := if_pos ⟨va, vc⟩
  have ti : (addE an ad cn cd == 0) = false := by simpa using hi
  have ui : (addE an ad cn cd != 0) = true := by simpa using hi
  have tmi : (mulE an ad cn cd == 0) = true := by simpa using hmi
  have umi : (mulE an ad cn cd != 0) = false := by simpa using hmi
  have tmj : (mulE bn bd cn cd == 0) = true := by simpa using hmj
  have umj : (mulE bn bd cn cd != 0) = false := by simpa using hmj
  clear va vc vb hi hmi hmj
  have B := Below.refl w.heap.size w
  go_enter Try.func8, Try.ntmps8
  go_wp2_with fail
  refine (sane_any _).mono ?_; rintro e w1 ⟨rfl, hb⟩
  have z1 := hb.size; simp at z1
  replace B := below_after (((B.alloc (by first | omega | (simp; done) | (simp; omega)) _).alloc (by first | omega | (simp; done) | (simp; omega)) _).alloc (by first | omega | (simp; done) | (simp; omega)) _) hb (by first | omega | (simp; done) | (simp; omega))
  have K_a := blk_below (blk_alloc (blk_alloc (blk_new _ _) _) _) hb (by first | omega | (simp; done) | (simp; omega))
  replace K_a := Lib.hid K_a
  have K_b := blk_below (blk_alloc (blk_new _ _) _) hb (by first | omega | (simp; done) | (simp; omega))
  rw [World.size_alloc] at K_b
  replace K_b := Lib.hid K_b
  have K_c := blk_below (blk_new _ _) hb (by first | omega | (simp; done) | (simp; omega))
  rw [World.size_alloc, World.size_alloc] at K_c
  replace K_c := Lib.hid K_c
  clear hb
  have c_a_0 := blk_cell K_a.out 0; simp at c_a_0
  have c_a_1 := blk_cell K_a.out 1; simp at c_a_1
  have c_b_0 := blk_cell K_b.out 0; simp at c_b_0
  have c_b_1 := blk_cell K_b.out 1; simp at c_b_1
  go_wp2_with fail
  refine (less_any _ _ _ _ _).mono ?_; rintro e w2 ⟨rfl, hb⟩
  rw [e1]
  clear c_a_0 c_a_1
  clear c_b_0 c_b_1
  have z2 := hb.size
  replace B := below_after B hb (by first | omega | (simp; done) | (simp; omega))
  replace K_a := Lib.hid (blk_below K_a.out hb (by first | omega | (simp; done) | (simp; omega)))
  replace K_b := Lib.hid (blk_below K_b.out hb (by first | omega | (simp; done) | (simp; omega)))
  replace K_c := Lib.hid (blk_below K_c.out hb (by first | omega | (simp; done) | (simp; omega)))
  clear hb
  have c_b_0 := blk_cell K_b.out 0; simp at c_b_0
  have c_b_1 := blk_cell K_b.out 1; simp at c_b_1
  have c_a_0 := blk_cell K_a.out 0; simp at c_a_0
  have c_a_1 := blk_cell K_a.out 1; simp at c_a_1
  go_wp2_with fail
  refine (less_any _ _ _ _ _).mono ?_; rintro e w3 ⟨rfl, hb⟩
  rw [e2]
  clear c_b_0 c_b_1
  clear c_a_0 c_a_1
  have z3 := hb.size
  replace B := below_after B hb (by first | omega | (simp; done) | (simp; omega))
  replace K_a := Lib.hid (blk_below K_a.out hb (by first | omega | (simp; done) | (simp; omega)))
  replace K_b := Lib.hid (blk_below K_b.out hb (by first | omega | (simp; done) | (simp; omega)))
  replace K_c := Lib.hid (blk_below K_c.out hb (by first | omega | (simp; done) | (simp; omega)))
  clear hb
  have c_b_0 := blk_cell K_b.out 0; simp at c_b_0
  have c_b_1 := blk_cell K_b.out 1; simp at c_b_1
  have c_c_0 := blk_cell K_c.out 0; simp at c_c_0
  have c_c_1 := blk_cell K_c.out 1; simp at c_c_1
  go_wp2_with fail
  refine (less_any _ _ _ _ _).mono ?_; rintro e w4 ⟨rfl, hb⟩
  rw [e3]
  clear c_b_0 c_b_1
  clear c_c_0 c_c_1
  have z4 := hb.size
  replace B := below_after B hb (by first | omega | (simp; done) | (simp; omega))
  replace K_a := Lib.hid (blk_below K_a.out hb (by first | omega | (simp; done) | (simp; omega)))
  replace K_b := Lib.hid (blk_below K_b.out hb (by first | omega | (simp; done) | (simp; omega)))
  replace K_c := Lib.hid (blk_below K_c.out hb (by first | omega | (simp; done) | (simp; omega)))
  clear hb
  have c_a_0 := blk_cell K_a.out 0; simp at c_a_0
  have c_a_1 := blk_cell K_a.out 1; simp at c_a_1
  have c_c_0 := blk_cell K_c.out 0; simp at c_c_0
  have c_c_1 := blk_cell K_c.out 1; simp at c_c_1
  go_wp2_with fail
  refine (less_any _ _ _ _ _).mono ?_; rintro e w5 ⟨rfl, hb⟩
  rw [e4]
  clear c_a_0 c_a_1
  clear c_c_0 c_c_1
  have z5 := hb.size
  replace B := below_after B hb (by first | omega | (simp; done) | (simp; omega))
  replace K_a := Lib.hid (blk_below K_a.out hb (by first | omega | (simp; done) | (simp; omega)))
  replace K_b := Lib.hid (blk_below K_b.out hb (by first | omega | (simp; done) | (simp; omega)))
  replace K_c := Lib.hid (blk_below K_c.out hb (by first | omega | (simp; done) | (simp; omega)))
  clear hb
  have c_a_0 := blk_cell K_a.out 0; simp at c_a_0
  have c_a_1 := blk_cell K_a.out 1; simp at c_a_1
  have c_b_0 := blk_cell K_b.out 0; simp at c_b_0
  have c_b_1 := blk_cell K_b.out 1; simp at c_b_1
  have c_c_0 := blk_cell K_c.out 0; simp at c_c_0
  have c_c_1 := blk_cell K_c.out 1; simp at c_c_1
  go_wp2_with fail
  refine (add_any _ _ _ _ _).mono ?_; rintro e w6 ⟨rfl, hb⟩
  clear c_c_0 c_c_1
  have z6 := hb.size
  replace B := below_after B hb (by first | omega | (simp; done) | (simp; omega))
  replace K_a := Lib.hid (blk_below K_a.out hb (by first | omega | (simp; done) | (simp; omega)))
  replace K_b := Lib.hid (blk_below K_b.out hb (by first | omega | (simp; done) | (simp; omega)))
  replace K_c := Lib.hid (blk_below K_c.out hb (by first | omega | (simp; done) | (simp; omega)))
  clear hb
  clear c_a_0 c_a_1 c_b_0 c_b_1
  have l_b : w.heap.size + 1 < w6.heap.size := by omega
  have c_b_0 := blk_cell K_b.out 0; simp at c_b_0
  have c_b_1 := blk_cell K_b.out 1; simp at c_b_1
  have l_c : w.heap.size + 1 + 1 < w6.heap.size := by omega
  have c_c_0 := blk_cell K_c.out 0; simp at c_c_0
  have c_c_1 := blk_cell K_c.out 1; simp at c_c_1
  go_wp2_with fail
  refine (add_any _ _ _ _ _).mono ?_; rintro e w7 ⟨rfl, hb⟩
  clear c_b_0 c_b_1 l_b
  clear c_c_0 c_c_1 l_c
  have z7 := hb.size; simp at z7
  replace B := below_after (B.alloc (by first | omega | (simp; done) | (simp; omega)) _) hb (by first | omega | (simp; done) | (simp; omega))
  replace K_a := Lib.hid (blk_below (blk_alloc K_a.out _) hb (by first | omega | (simp; done) | (simp; omega)))
  replace K_b := Lib.hid (blk_below (blk_alloc K_b.out _) hb (by first | omega | (simp; done) | (simp; omega)))
  replace K_c := Lib.hid (blk_below (blk_alloc K_c.out _) hb (by first | omega | (simp; done) | (simp; omega)))
  have K_x := blk_below (blk_new _ _) hb (by first | omega | (simp; done) | (simp; omega))
  replace K_x := Lib.hid K_x
  clear hb
  have l_a : w.heap.size < w7.heap.size := by omega
  have c_a_0 := blk_cell K_a.out 0; simp at c_a_0
  have c_a_1 := blk_cell K_a.out 1; simp at c_a_1
  have l_c : w.heap.size + 1 + 1 < w7.heap.size := by omega
  have c_c_0 := blk_cell K_c.out 0; simp at c_c_0
  have c_c_1 := blk_cell K_c.out 1; simp at c_c_1
  go_wp2_with fail
  refine (mul_any _ _ _ _ _).mono ?_; rintro e w8 ⟨rfl, hb⟩
  clear c_a_0 c_a_1 l_a
  clear c_c_0 c_c_1 l_c
  have z8 := hb.size; simp at z8
  replace B := below_after (B.alloc (by first | omega | (simp; done) | (simp; omega)) _) hb (by first | omega | (simp; done) | (simp; omega))
  replace K_a := Lib.hid (blk_below (blk_alloc K_a.out _) hb (by first | omega | (simp; done) | (simp; omega)))
  replace K_b := Lib.hid (blk_below (blk_alloc K_b.out _) hb (by first | omega | (simp; done) | (simp; omega)))
  replace K_c := Lib.hid (blk_below (blk_alloc K_c.out _) hb (by first | omega | (simp; done) | (simp; omega)))
  replace K_x := Lib.hid (blk_below (blk_alloc K_x.out _) hb (by first | omega | (simp; done) | (simp; omega)))
  have K_y := blk_below (blk_new _ _) hb (by first | omega | (simp; done) | (simp; omega))
  replace K_y := Lib.hid K_y
  clear hb
  have l_b : w.heap.size + 1 < w8.heap.size := by omega
  have c_b_0 := blk_cell K_b.out 0; simp at c_b_0
  have c_b_1 := blk_cell K_b.out 1; simp at c_b_1
  have l_c : w.heap.size + 1 + 1 < w8.heap.size := by omega
  have c_c_0 := blk_cell K_c.out 0; simp at c_c_0
  have c_c_1 := blk_cell K_c.out 1; simp at c_c_1
  go_wp2_with fail
  refine (mul_any _ _ _ _ _).mono ?_; rintro e w9 ⟨rfl, hb⟩
  clear c_b_0 c_b_1 l_b
  clear c_c_0 c_c_1 l_c
  have z9 := hb.size; simp at z9
  replace B := below_after (B.alloc (by first | omega | (simp; done) | (simp; omega)) _) hb (by first | omega | (simp; done) | (simp; omega))
  replace K_a := Lib.hid (blk_below (blk_alloc K_a.out _) hb (by first | omega | (simp; done) | (simp; omega)))
  replace K_b := Lib.hid (blk_below (blk_alloc K_b.out _) hb (by first | omega | (simp; done) | (simp; omega)))
  replace K_c := Lib.hid (blk_below (blk_alloc K_c.out _) hb (by first | omega | (simp; done) | (simp; omega)))
  replace K_x := Lib.hid (blk_below (blk_alloc K_x.out _) hb (by first | omega | (simp; done) | (simp; omega)))
  replace K_y := Lib.hid (blk_below (blk_alloc K_y.out _) hb (by first | omega | (simp; done) | (simp; omega)))
  have K_p := blk_below (blk_new _ _) hb (by first | omega | (simp; done) | (simp; omega))
  replace K_p := Lib.hid K_p
  clear hb
  have l_c : w.heap.size + 1 + 1 < w9.heap.size := by omega
  have c_c_0 := blk_cell K_c.out 0; simp at c_c_0
  have c_c_1 := blk_cell K_c.out 1; simp at c_c_1
  go_wp2
  go_ret
  exact ⟨by simp, B.alloc (by first | omega | (simp; done) | (simp; omega)) _⟩

set_option maxRecDepth 100000 in
set_option maxHeartbeats 4000000 in
theorem rationalOrder_lt0_fn_fnn (an ad bn bd cn cd : Int) (va : Valid an ad) (vb : Valid bn bd) (vc : Valid cn cd) (hab : lessV an ad bn bd = true) (hba : lessV bn bd an ad = false) (hbc : lessV bn bd cn cd = false) (hne : ¬ an = bn) (hi : addE an ad cn cd ≠ 0) (hmi : mulE an ad cn cd ≠ 0) (w : World) :
    Calls Try.prog 8 #[.agg #[.int .i64 an, .int .i64 ad], .agg #[.int .i64 bn, .int .i64 bd], .agg #[.int .i64 cn, .int .i64 cd]] w fun e w' => e = .returned (.bool true) ∧ Below w.heap.size w w' := by
  have e1 : lessE an ad bn bd = 0 := if_pos ⟨va, vb⟩
  have e2 : lessE bn bd an ad = 0 := if_pos ⟨vb, va⟩
  have e3 : lessE bn bd cn cd = 0 := if_pos ⟨vb, vc⟩
  have e4 : lessE an ad cn cd = 0 := if_pos ⟨va, vc⟩
  have ti : (addE an ad cn cd == 0) = false := by simpa using hi
  have ui : (addE an ad cn cd != 0) = true := by simpa using hi
  have tmi : (mulE an ad cn cd == 0) = false := by simpa using hmi
  have umi : (mulE an ad cn cd != 0) = true := by simpa using hmi
  clear va vc vb hi hmi
  have B := Below.refl w.heap.size w
  go_enter Try.func8, Try.ntmps8
  go_wp2_with fail
  refine (sane_any _).mono ?_; rintro e w1 ⟨rfl, hb⟩
  have z1 := hb.size; simp at z1
  replace B := below_after (((B.alloc (by first | omega | (simp; done) | (simp; omega)) _).alloc (by first | omega | (simp; done) | (simp; omega)) _).alloc (by first | omega | (simp; done) | (simp; omega)) _) hb (by first | omega | (simp; done) | (simp; omega))
  have K_a := blk_below (blk_alloc (blk_alloc (blk_new _ _) _) _) hb (by first | omega | (simp; done) | (simp; omega))
  replace K_a := Lib.hid K_a
  have K_b := blk_below (blk_alloc (blk_new _ _) _) hb (by first | omega | (simp; done) | (simp; omega))
  rw [World.size_alloc] at K_b
  replace K_b := Lib.hid K_b
  have K_c := blk_below (blk_new _ _) hb (by first | omega | (simp; done) | (simp; omega))
  rw [World.size_alloc, World.size_alloc] at K_c
  replace K_c := Lib.hid K_c
  clear hb
  have c_a_0 := blk_cell K_a.out 0; simp at c_a_0
  have c_a_1 := blk_cell K_a.out 1; simp at c_a_1
  have c_b_0 := blk_cell K_b.out 0; simp at c_b_0
  have c_b_1 := blk_cell K_b.out 1; simp at c_b_1
  go_wp2_with fail
  refine (less_any _ _ _ _ _).mono ?_; rintro e w2 ⟨rfl, hb⟩
  rw [e1]
  clear c_a_0 c_a_1
  clear c_b_0 c_b_1
  have z2 := hb.size
  replace B := below_after B hb (by first | omega | (simp; done) | (simp; omega))
  replace K_a := Lib.hid (blk_below K_a.out hb (by first | omega | (simp; done) | (simp; omega)))
  replace K_b := Lib.hid (blk_below K_b.out hb (by first | omega | (simp; done) | (simp; omega)))
  replace K_c := Lib.hid (blk_below K_c.out hb (by first | omega | (simp; done) | (simp; omega)))
  clear hb
  have c_b_0 := blk_cell K_b.out 0; simp at c_b_0
  have c_b_1 := blk_cell K_b.out 1; simp at c_b_1
  have c_a_0 := blk_cell K_a.out 0; simp at c_a_0
  have c_a_1 := blk_cell K_a.out 1; simp at c_a_1
  go_wp2_with fail
  refine (less_any _ _ _ _ _).mono ?_; rintro e w3 ⟨rfl, hb⟩
  rw [e2]
  clear c_b_0 c_b_1
  clear c_a_0 c_a_1
  have z3 := hb.size
  replace B := below_after B hb (by first | omega | (simp; done) | (simp; omega))
  replace K_a := Lib.hid (blk_below K_a.out hb (by first | omega | (simp; done) | (simp; omega)))
  replace K_b := Lib.hid (blk_below K_b.out hb (by first | omega | (simp; done) | (simp; omega)))
  replace K_c := Lib.hid (blk_below K_c.out hb (by first | omega | (simp; done) | (simp; omega)))
  clear hb
  have c_b_0 := blk_cell K_b.out 0; simp at c_b_0
  have c_b_1 := blk_cell K_b.out 1; simp at c_b_1
  have c_c_0 := blk_cell K_c.out 0; simp at c_c_0
  have c_c_1 := blk_cell K_c.out 1; simp at c_c_1
  go_wp2_with fail
  refine (less_any _ _ _ _ _).mono ?_; rintro e w4 ⟨rfl, hb⟩
  rw [e3]
  clear c_b_0 c_b_1
  clear c_c_0 c_c_1
  have z4 := hb.size
  replace B := below_after B hb (by first | omega | (simp; done) | (simp; omega))
  replace K_a := Lib.hid (blk_below K_a.out hb (by first | omega | (simp; done) | (simp; omega)))
  replace K_b := Lib.hid (blk_below K_b.out hb (by first | omega | (simp; done) | (simp; omega)))
  replace K_c := Lib.hid (blk_below K_c.out hb (by first | omega | (simp; done) | (simp; omega)))
  clear hb
  have c_a_0 := blk_cell K_a.out 0; simp at c_a_0
  have c_a_1 := blk_cell K_a.out 1; simp at c_a_1
  have c_c_0 := blk_cell K_c.out 0; simp at c_c_0
  have c_c_1 := blk_cell K_c.out 1; simp at c_c_1
  go_wp2_with fail
  refine (less_any _ _ _ _ _).mono ?_; rintro e w5 ⟨rfl, hb⟩
  rw [e4]
  clear c_a_0 c_a_1
  clear c_c_0 c_c_1
  have z5 := hb.size
  replace B := below_after B hb (by first | omega | (simp; done) | (simp; omega))
  replace K_a := Lib.hid (blk_below K_a.out hb (by first | omega | (simp; done) | (simp; omega)))
  replace K_b := Lib.hid (blk_below K_b.out hb (by first | omega | (simp; done) | (simp; omega)))
  replace K_c := Lib.hid (blk_below K_c.out hb (by first | omega | (simp; done) | (simp; omega)))
  clear hb
  have c_a_0 := blk_cell K_a.out 0; simp at c_a_0
  have c_a_1 := blk_cell K_a.out 1; simp at c_a_1
  have c_b_0 := blk_cell K_b.out 0; simp at c_b_0
  have c_b_1 := blk_cell K_b.out 1; simp at c_b_1
  have c_c_0 := blk_cell K_c.out 0; simp at c_c_0
  have c_c_1 := blk_cell K_c.out 1; simp at c_c_1
  go_wp2_with fail
  refine (add_any _ _ _ _ _).mono ?_; rintro e w6 ⟨rfl, hb⟩
  clear c_c_0 c_c_1
  have z6 := hb.size
  replace B := below_after B hb (by first | omega | (simp; done) | (simp; omega))
  replace K_a := Lib.hid (blk_below K_a.out hb (by first | omega | (simp; done) | (simp; omega)))
  replace K_b := Lib.hid (blk_below K_b.out hb (by first | omega | (simp; done) | (simp; omega)))
  replace K_c := Lib.hid (blk_below K_c.out hb (by first | omega | (simp; done) | (simp; omega)))
  clear hb
  clear c_a_0 c_a_1 c_b_0 c_b_1
  have l_b : w.heap.size + 1 < w6.heap.size := by omega
  have c_b_0 := blk_cell K_b.out 0; simp at c_b_0
  have c_b_1 := blk_cell K_b.out 1; simp at c_b_1
  have l_c : w.heap.size + 1 + 1 < w6.heap.size := by omega
  have c_c_0 := blk_cell K_c.out 0; simp at c_c_0
  have c_c_1 := blk_cell K_c.out 1; simp at c_c_1
  go_wp2_with fail
  refine (add_any _ _ _ _ _).mono ?_; rintro e w7 ⟨rfl, hb⟩
  clear c_b_0 c_b_1 l_b
  clear c_c_0 c_c_1 l_c
  have z7 := hb.size; simp at z7
  replace B := below_after (B.alloc (by first | omega | (simp; done) | (simp; omega)) _) hb (by first | omega | (simp; done) | (simp; omega))
  replace K_a := Lib.hid (blk_below (blk_alloc K_a.out _) hb (by first | omega | (simp; done) | (simp; omega)))
  replace K_b := Lib.hid (blk_below (blk_alloc K_b.out _) hb (by first | omega | (simp; done) | (simp; omega)))
  replace K_c := Lib.hid (blk_below (blk_alloc K_c.out _) hb (by first | omega | (simp; done) | (simp; omega)))
  have K_x := blk_below (blk_new _ _) hb (by first | omega | (simp; done) | (simp; omega))
  replace K_x := Lib.hid K_x
  clear hb
  have l_a : w.heap.size < w7.heap.size := by omega
  have c_a_0 := blk_cell K_a.out 0; simp at c_a_0
  have c_a_1 := blk_cell K_a.out 1; simp at c_a_1
  have l_c : w.heap.size + 1 + 1 < w7.heap.size := by omega
  have c_c_0 := blk_cell K_c.out 0; simp at c_c_0
  have c_c_1 := blk_cell K_c.out 1; simp at c_c_1
  go_wp2_with fail
  refine (mul_any _ _ _ _ _).mono ?_; rintro e w8 ⟨rfl, hb⟩
  clear c_a_0 c_a_1 l_a
  clear c_c_0 c_c_1 l_c
  have z8 := hb.size; simp at z8
  replace B := below_after (B.alloc (by first | omega | (simp; done) | (simp; omega)) _) hb (by first | omega | (simp; done) | (simp; omega))
  replace K_a := Lib.hid (blk_below (blk_alloc K_a.out _) hb (by first | omega | (simp; done) | (simp; omega)))
  replace K_b := Lib.hid (blk_below (blk_alloc K_b.out _) hb (by first | omega | (simp; done) | (simp; omega)))
  replace K_c := Lib.hid (blk_below (blk_alloc K_c.out _) hb (by first | omega | (simp; done) | (simp; omega)))
  replace K_x := Lib.hid (blk_below (blk_alloc K_x.out _) hb (by first | omega | (simp; done) | (simp; omega)))
  have K_y := blk_below (blk_new _ _) hb (by first | omega | (simp; done) | (simp; omega))
  replace K_y := Lib.hid K_y
  clear hb
  have l_b : w.heap.size + 1 < w8.heap.size := by omega
  have c_b_0 := blk_cell K_b.out 0; simp at c_b_0
  have c_b_1 := blk_cell K_b.out 1; simp at c_b_1
  have l_c : w.heap.size + 1 + 1 < w8.heap.size := by omega
  have c_c_0 := blk_cell K_c.out 0; simp at c_c_0
  have c_c_1 := blk_cell K_c.out 1; simp at c_c_1
  go_wp2_with fail
  refine (mul_any _ _ _ _ _).mono ?_; rintro e w9 ⟨rfl, hb⟩
  clear c_b_0 c_b_1 l_b
  clear c_c_0 c_c_1 l_c
  have z9 := hb.size; simp at z9
  replace B := below_after (B.alloc (by first | omega | (simp; done) | (simp; omega)) _) hb (by first | omega | (simp; done) | (simp; omega))
  replace K_a := Lib.hid (blk_below (blk_alloc K_a.out _) hb (by first | omega | (simp; done) | (simp; omega)))
  replace K_b := Lib.hid (blk_below (blk_alloc K_b.out _) hb (by first | omega | (simp; done) | (simp; omega)))
  replace K_c := Lib.hid (blk_below (blk_alloc K_c.out _) hb (by first | omega | (simp; done) | (simp; omega)))
  replace K_x := Lib.hid (blk_below (blk_alloc K_x.out _) hb (by first | omega | (simp; done) | (simp; omega)))
  replace K_y := Lib.hid (blk_below (blk_alloc K_y.out _) hb (by first | omega | (simp; done) | (simp; omega)))
  have K_p := blk_below (blk_new _ _) hb (by first | omega | (simp; done) | (simp; omega))
  replace K_p := Lib.hid K_p
  clear hb
  go_wp2
  go_ret
  exact ⟨by simp, B.alloc (by first | omega | (simp; done) | (simp; omega)) _⟩

set_option maxRecDepth 100000 in
set_option maxHeartbeats 4000000 in
theorem rationalOrder_gt_tt_ttf (an ad bn bd cn cd : Int) (va : Valid an ad) (vb : Valid bn bd) (vc : Valid cn cd) (hab : lessV an ad bn bd = false) (hba : lessV bn bd an ad = true) (hne : ¬ an = bn) (hi : addE an ad cn cd = 0) (hj : addE bn bd cn cd = 0) (hmi : mulE an ad cn cd = 0) (hmj : mulE bn bd cn cd = 0) (hp : cn ≤ 0) (w : World) :
    Calls Try.prog 8 #[.agg #[.int .i64 an, .int .i64 ad], .agg #[.int .i64 bn, .int .i64 bd], .agg #[.int .i64 cn, .int .i64 cd]] w fun e w' => e = .returned (.bool true) ∧ Below w.heap.size w w' := by
  have e1 : lessE an ad bn bd = 0 := if_pos ⟨va, vb⟩
  have e2 : lessE bn bd an ad = 0 := if_pos ⟨vb, va⟩
  have e3 : lessE bn bd cn cd = 0 := if_pos ⟨vb, vc⟩
  have e4 : lessE an ad cn cd = 0 := if_pos ⟨va, vc⟩
  have ti : (addE an ad cn cd == 0) = true := by simpa using hi
  have ui : (addE an ad cn cd != 0) = false := by simpa using hi
  have tj : (addE bn bd cn cd == 0) = true := by simpa using hj
  have uj : (addE bn bd cn cd != 0) = false := by simpa using hj
  have tmi : (mulE an ad cn cd == 0) = true := by simpa using hmi
  have umi : (mulE an ad cn cd != 0) = false := by simpa using hmi
  have tmj : (mulE bn bd cn cd == 0) = true := by simpa using hmj
  have umj : (mulE bn bd cn cd != 0) = false := by simpa using hmj
  obtain ⟨s1, s2⟩ := less_add va vb vc hi hj
  rw [hab] at s1
  clear va vc vb hi hj hmi hmj
  have B := Below.refl w.heap.size w
  go_enter Try.func8, Try.ntmps8
  go_wp2_with fail
  refine (sane_any _).mono ?_; rintro e w1 ⟨rfl, hb⟩
  have z1 := hb.size; simp at z1
  replace B := below_after (((B.alloc (by first | omega | (simp; done) | (simp; omega)) _).alloc (by first | omega | (simp; done) | (simp; omega)) _).alloc (by first | omega | (simp; done) | (simp; omega)) _) hb (by first | omega | (simp; done) | (simp; omega))
  have K_a := blk_below (blk_alloc (blk_alloc (blk_new _ _) _) _) hb (by first | omega | (simp; done) | (simp; omega))
  replace K_a := Lib.hid K_a
  have K_b := blk_below (blk_alloc (blk_new _ _) _) hb (by first | omega | (simp; done) | (simp; omega))
  rw [World.size_alloc] at K_b
  replace K_b := Lib.hid K_b
  have K_c := blk_below (blk_new _ _) hb (by first | omega | (simp; done) | (simp; omega))
  rw [World.size_alloc, World.size_alloc] at K_c
  replace K_c := Lib.hid K_c
  clear hb
  have c_a_0 := blk_cell K_a.out 0; simp at c_a_0
  have c_a_1 := blk_cell K_a.out 1; simp at c_a_1
  have c_b_0 := blk_cell K_b.out 0; simp at c_b_0
  have c_b_1 := blk_cell K_b.out 1; simp at c_b_1
  go_wp2_with fail
  refine (less_any _ _ _ _ _).mono ?_; rintro e w2 ⟨rfl, hb⟩
  rw [e1]
  clear c_a_0 c_a_1
  clear c_b_0 c_b_1
  have z2 := hb.size
  replace B := below_after B hb (by first | omega | (simp; done) | (simp; omega))
  replace K_a := Lib.hid (blk_below K_a.out hb (by first | omega | (simp; done) | (simp; omega)))
  replace K_b := Lib.hid (blk_below K_b.out hb (by first | omega | (simp; done) | (simp; omega)))
  replace K_c := Lib.hid (blk_below K_c.out hb (by first | omega | (simp; done) | (simp; omega)))
  clear hb
  have c_b_0 := blk_cell K_b.out 0; simp at c_b_0
  have c_b_1 := blk_cell K_b.out 1; simp at c_b_1
  have c_a_0 := blk_cell K_a.out 0; simp at c_a_0
  have c_a_1 := blk_cell K_a.out 1; simp at c_a_1
  go_wp2_with fail
  refine (less_any _ _ _ _ _).mono ?_; rintro e w3 ⟨rfl, hb⟩
  rw [e2]
  clear c_b_0 c_b_1
  clear c_a_0 c_a_1
  have z3 := hb.size
  replace B := below_after B hb (by first | omega | (simp; done) | (simp; omega))
  replace K_a := Lib.hid (blk_below K_a.out hb (by first | omega | (simp; done) | (simp; omega)))
  replace K_b := Lib.hid (blk_below K_b.out hb (by first | omega | (simp; done) | (simp; omega)))
  replace K_c := Lib.hid (blk_below K_c.out hb (by first | omega | (simp; done) | (simp; omega)))
  clear hb
  have c_b_0 := blk_cell K_b.out 0; simp at c_b_0
  have c_b_1 := blk_cell K_b.out 1; simp at c_b_1
  have c_c_0 := blk_cell K_c.out 0; simp at c_c_0
  have c_c_1 := blk_cell K_c.out 1; simp at c_c_1
  go_wp2_with fail
  refine (less_any _ _ _ _ _).mono ?_; rintro e w4 ⟨rfl, hb⟩
  rw [e3]
  clear c_b_0 c_b_1
  clear c_c_0 c_c_1
  have z4 := hb.size
  replace B := below_after B hb (by first | omega | (simp; done) | (simp; omega))
  replace K_a := Lib.hid (blk_below K_a.out hb (by first | omega | (simp; done) | (simp; omega)))
  replace K_b := Lib.hid (blk_below K_b.out hb (by first | omega | (simp; done) | (simp; omega)))
  replace K_c := Lib.hid (blk_below K_c.out hb (by first | omega | (simp; done) | (simp; omega)))
  clear hb
  have c_a_0 := blk_cell K_a.out 0; simp at c_a_0
  have c_a_1 := blk_cell K_a.out 1; simp at c_a_1
  have c_c_0 := blk_cell K_c.out 0; simp at c_c_0
  have c_c_1 := blk_cell K_c.out 1; simp at c_c_1
  go_wp2_with fail
  refine (less_any _ _ _ _ _).mono ?_; rintro e w5 ⟨rfl, hb⟩
  rw [e4]
  clear c_a_0 c_a_1
  clear c_c_0 c_c_1
  have z5 := hb.size
  replace B := below_after B hb (by first | omega | (simp; done) | (simp; omega))
  replace K_a := Lib.hid (blk_below K_a.out hb (by first | omega | (simp; done) | (simp; omega)))
  replace K_b := Lib.hid (blk_below K_b.out hb (by first | omega | (simp; done) | (simp; omega)))
  replace K_c := Lib.hid (blk_below K_c.out hb (by first | omega | (simp; done) | (simp; omega)))
  clear hb
  have c_a_0 := blk_cell K_a.out 0; simp at c_a_0
  have c_a_1 := blk_cell K_a.out 1; simp at c_a_1
  have c_b_0 := blk_cell K_b.out 0; simp at c_b_0
  have c_b_1 := blk_cell K_b.out 1; simp at c_b_1
  have c_c_0 := blk_cell K_c.out 0; simp at c_c_0
  have c_c_1 := blk_cell K_c.out 1; simp at c_c_1
  go_wp2_with fail
  refine (add_any _ _ _ _ _).mono ?_; rintro e w6 ⟨rfl, hb⟩
  clear c_c_0 c_c_1
  have z6 := hb.size
  replace B := below_after B hb (by first | omega | (simp; done) | (simp; omega))
  replace K_a := Lib.hid (blk_below K_a.out hb (by first | omega | (simp; done) | (simp; omega)))
  replace K_b := Lib.hid (blk_below K_b.out hb (by first | omega | (simp; done) | (simp; omega)))
  replace K_c := Lib.hid (blk_below K_c.out hb (by first | omega | (simp; done) | (simp; omega)))
  clear hb
  clear c_a_0 c_a_1 c_b_0 c_b_1
  have l_b : w.heap.size + 1 < w6.heap.size := by omega
  have c_b_0 := blk_cell K_b.out 0; simp at c_b_0
  have c_b_1 := blk_cell K_b.out 1; simp at c_b_1
  have l_c : w.heap.size + 1 + 1 < w6.heap.size := by omega
  have c_c_0 := blk_cell K_c.out 0; simp at c_c_0
  have c_c_1 := blk_cell K_c.out 1; simp at c_c_1
  go_wp2_with fail
  refine (add_any _ _ _ _ _).mono ?_; rintro e w7 ⟨rfl, hb⟩
  clear c_b_0 c_b_1 l_b
  clear c_c_0 c_c_1 l_c
  have z7 := hb.size; simp at z7
  replace B := below_after (B.alloc (by first | omega | (simp; done) | (simp; omega)) _) hb (by first | omega | (simp; done) | (simp; omega))
  replace K_a := Lib.hid (blk_below (blk_alloc K_a.out _) hb (by first | omega | (simp; done) | (simp; omega)))
  replace K_b := Lib.hid (blk_below (blk_alloc K_b.out _) hb (by first | omega | (simp; done) | (simp; omega)))
  replace K_c := Lib.hid (blk_below (blk_alloc K_c.out _) hb (by first | omega | (simp; done) | (simp; omega)))
  have K_x := blk_below (blk_new _ _) hb (by first | omega | (simp; done) | (simp; omega))
  replace K_x := Lib.hid K_x
  clear hb
  have l_x : w6.heap.size < w7.heap.size := by omega
  have c_x_0 := blk_cell K_x.out 0; simp at c_x_0
  have c_x_1 := blk_cell K_x.out 1; simp at c_x_1
  go_wp2_with fail
  refine (less_any _ _ _ _ _).mono ?_; rintro e w8 ⟨rfl, hb⟩
  rw [s1, s2]
  clear c_x_0 c_x_1 l_x
  have z8 := hb.size; simp at z8
  replace B := below_after (B.alloc (by first | omega | (simp; done) | (simp; omega)) _) hb (by first | omega | (simp; done) | (simp; omega))
  replace K_a := Lib.hid (blk_below (blk_alloc K_a.out _) hb (by first | omega | (simp; done) | (simp; omega)))
  replace K_b := Lib.hid (blk_below (blk_alloc K_b.out _) hb (by first | omega | (simp; done) | (simp; omega)))
  replace K_c := Lib.hid (blk_below (blk_alloc K_c.out _) hb (by first | omega | (simp; done) | (simp; omega)))
  replace K_x := Lib.hid (blk_below (blk_alloc K_x.out _) hb (by first | omega | (simp; done) | (simp; omega)))
  have K_y := blk_below (blk_new _ _) hb (by first | omega | (simp; done) | (simp; omega))
  replace K_y := Lib.hid K_y
  clear hb
  have c_a_0 := blk_cell K_a.out 0; simp at c_a_0
  have c_a_1 := blk_cell K_a.out 1; simp at c_a_1
  have c_c_0 := blk_cell K_c.out 0; simp at c_c_0
  have c_c_1 := blk_cell K_c.out 1; simp at c_c_1
  go_wp2_with fail
  refine (mul_any _ _ _ _ _).mono ?_; rintro e w9 ⟨rfl, hb⟩
  clear c_a_0 c_a_1
  clear c_c_0 c_c_1
  have z9 := hb.size
  replace B := below_after B hb (by first | omega | (simp; done) | (simp; omega))
  replace K_a := Lib.hid (blk_below K_a.out hb (by first | omega | (simp; done) | (simp; omega)))
  replace K_b := Lib.hid (blk_below K_b.out hb (by first | omega | (simp; done) | (simp; omega)))
  replace K_c := Lib.hid (blk_below K_c.out hb (by first | omega | (simp; done) | (simp; omega)))
  replace K_x := Lib.hid (blk_below K_x.out hb (by first | omega | (simp; done) | (simp; omega)))
  replace K_y := Lib.hid (blk_below K_y.out hb (by first | omega | (simp; done) | (simp; omega)))
  clear hb
  have l_b : w.heap.size + 1 < w9.heap.size := by omega
  have c_b_0 := blk_cell K_b.out 0; simp at c_b_0
  have c_b_1 := blk_cell K_b.out 1; simp at c_b_1
  have l_c : w.heap.size + 1 + 1 < w9.heap.size := by omega
  have c_c_0 := blk_cell K_c.out 0; simp at c_c_0
  have c_c_1 := blk_cell K_c.out 1; simp at c_c_1
  go_wp2_with fail
  refine (mul_any _ _ _ _ _).mono ?_; rintro e w10 ⟨rfl, hb⟩
  clear c_b_0 c_b_1 l_b
  clear c_c_0 c_c_1 l_c
  have z10 := hb.size; simp at z10
  replace B := below_after (B.alloc (by first | omega | (simp; done) | (simp; omega)) _) hb (by first | omega | (simp; done) | (simp; omega))
  replace K_a := Lib.hid (blk_below (blk_alloc K_a.out _) hb (by first | omega | (simp; done) | (simp; omega)))
  replace K_b := Lib.hid (blk_below (blk_alloc K_b.out _) hb (by first | omega | (simp; done) | (simp; omega)))
  replace K_c := Lib.hid (blk_below (blk_alloc K_c.out _) hb (by first | omega | (simp; done) | (simp; omega)))
  replace K_x := Lib.hid (blk_below (blk_alloc K_x.out _) hb (by first | omega | (simp; done) | (simp; omega)))
  replace K_y := Lib.hid (blk_below (blk_alloc K_y.out _) hb (by first | omega | (simp; done) | (simp; omega)))
  have K_p := blk_below (blk_new _ _) hb (by first | omega | (simp; done) | (simp; omega))
  replace K_p := Lib.hid K_p
  clear hb
  have l_c : w.heap.size + 1 + 1 < w10.heap.size := by omega
  have c_c_0 := blk_cell K_c.out 0; simp at c_c_0
  have c_c_1 := blk_cell K_c.out 1; simp at c_c_1
  go_wp2
  go_ret
  exact ⟨by simp, B.alloc (by first | omega | (simp; done) | (simp; omega)) _⟩

set_option maxRecDepth 100000 in
set_option maxHeartbeats 4000000 in
theorem rationalOrder_gt_tt_fnn (an ad bn bd cn cd : Int) (va : Valid an ad) (vb : Valid bn bd) (vc : Valid cn cd) (hab : lessV an ad bn bd = false) (hba : lessV bn bd an ad = true) (hne : ¬ an = bn) (hi : addE an ad cn cd = 0) (hj : addE bn bd cn cd = 0) (hmi : mulE an ad cn cd ≠ 0) (w : World) :
    Calls Try.prog 8 #[.agg #[.int .i64 an, .int .i64 ad], .agg #[.int .i64 bn, .int .i64 bd], .agg #[.int .i64 cn, .int .i64 cd]] w fun e w' => e = .returned (.bool true) ∧ Below w.heap.size w w' := by
  have e1 : lessE an ad bn bd = 0 := if_pos ⟨va, vb⟩
  have e2 : lessE bn bd an ad = 0 := if_pos ⟨vb, va⟩
  have e3 : lessE bn bd cn cd = 0 := if_pos ⟨vb, vc⟩
  have e4 : lessE an ad cn cd = 0 := if_pos ⟨va, vc⟩
  have ti : (addE an ad cn cd == 0) = true := by simpa using hi
  have ui : (addE an ad cn cd != 0) = false := by simpa using hi
  have tj : (addE bn bd cn cd == 0) = true := by simpa using hj
  have uj : (addE bn bd cn cd != 0) = false := by simpa using hj
  have tmi : (mulE an ad cn cd == 0) = false := by simpa using hmi
  have umi : (mulE an ad cn cd != 0) = true := by simpa using hmi
  obtain ⟨s1, s2⟩ := less_add va vb vc hi hj
  rw [hab] at s1
  clear va vc vb hi hj hmi
  have B := Below.refl w.heap.size w
  go_enter Try.func8, Try.ntmps8
  go_wp2_with fail
  refine (sane_any _).mono ?_; rintro e w1 ⟨rfl, hb⟩
  have z1 := hb.size; simp at z1
  replace B := below_after (((B.alloc (by first | omega | (simp; done) | (simp; omega)) _).alloc (by first | omega | (simp; done) | (simp; omega)) _).alloc (by first | omega | (simp; done) | (simp; omega)) _) hb (by first | omega | (simp; done) | (simp; omega))
  have K_a := blk_below (blk_alloc (blk_alloc (blk_new _ _) _) _) hb (by first | omega | (simp; done) | (simp; omega))
  replace K_a := Lib.hid K_a
  have K_b := blk_below (blk_alloc (blk_new _ _) _) hb (by first | omega | (simp; done) | (simp; omega))
  rw [World.size_alloc] at K_b
  replace K_b := Lib.hid K_b
  have K_c := blk_below (blk_new _ _) hb (by first | omega | (simp; done) | (simp; omega))
  rw [World.size_alloc, World.size_alloc] at K_c
  replace K_c := Lib.hid K_c
  clear hb
  have c_a_0 := blk_cell K_a.out 0; simp at c_a_0
  have c_a_1 := blk_cell K_a.out 1; simp at c_a_1
  have c_b_0 := blk_cell K_b.out 0; simp at c_b_0
  have c_b_1 := blk_cell K_b.out 1; simp at c_b_1
  go_wp2_with fail
  refine (less_any _ _ _ _ _).mono ?_; rintro e w2 ⟨rfl, hb⟩
  rw [e1]
  clear c_a_0 c_a_1
  clear c_b_0 c_b_1
  have z2 := hb.size
  replace B := below_after B hb (by first | omega | (simp; done) | (simp; omega))
  replace K_a := Lib.hid (blk_below K_a.out hb (by first | omega | (simp; done) | (simp; omega)))
  replace K_b := Lib.hid (blk_below K_b.out hb (by first | omega | (simp; done) | (simp; omega)))
  replace K_c := Lib.hid (blk_below K_c.out hb (by first | omega | (simp; done) | (simp; omega)))
  clear hb
  have c_b_0 := blk_cell K_b.out 0; simp at c_b_0
  have c_b_1 := blk_cell K_b.out 1; simp at c_b_1
  have c_a_0 := blk_cell K_a.out 0; simp at c_a_0
  have c_a_1 := blk_cell K_a.out 1; simp at c_a_1
  go_wp2_with fail
  refine (less_any _ _ _ _ _).mono ?_; rintro e w3 ⟨rfl, hb⟩
  rw [e2]
  clear c_b_0 c_b_1
  clear c_a_0 c_a_1
  have z3 := hb.size
  replace B := below_after B hb (by first | omega | (simp; done) | (simp; omega))
  replace K_a := Lib.hid (blk_below K_a.out hb (by first | omega | (simp; done) | (simp; omega)))
  replace K_b := Lib.hid (blk_below K_b.out hb (by first | omega | (simp; done) | (simp; omega)))
  replace K_c := Lib.hid (blk_below K_c.out hb (by first | omega | (simp; done) | (simp; omega)))
  clear hb
  have c_b_0 := blk_cell K_b.out 0; simp at c_b_0
  have c_b_1 := blk_cell K_b.out 1; simp at c_b_1
  have c_c_0 := blk_cell K_c.out 0; simp at c_c_0
  have c_c_1 := blk_cell K_c.out 1; simp at c_c_1
  go_wp2_with fail
  refine (less_any _ _ _ _ _).mono ?_; rintro e w4 ⟨rfl, hb⟩
  rw [e3]
  clear c_b_0 c_b_1
  clear c_c_0 c_c_1
  have z4 := hb.size
  replace B := below_after B hb (by first | omega | (simp; done) | (simp; omega))
  replace K_a := Lib.hid (blk_below K_a.out hb (by first | omega | (simp; done) | (simp; omega)))
  replace K_b := Lib.hid (blk_below K_b.out hb (by first | omega | (simp; done) | (simp; omega)))
  replace K_c := Lib.hid (blk_below K_c.out hb (by first | omega | (simp; done) | (simp; omega)))
  clear hb
  have c_a_0 := blk_cell K_a.out 0; simp at c_a_0
  have c_a_1 := blk_cell K_a.out 1; simp at c_a_1
  have c_c_0 := blk_cell K_c.out 0; simp at c_c_0
  have c_c_1 := blk_cell K_c.out 1; simp at c_c_1
  go_wp2_with fail
  refine (less_any _ _ _ _ _).mono ?_; rintro e w5 ⟨rfl, hb⟩
  rw [e4]
  clear c_a_0 c_a_1
  clear c_c_0 c_c_1
  have z5 := hb.size
  replace B := below_after B hb (by first | omega | (simp; done) | (simp; omega))
  replace K_a := Lib.hid (blk_below K_a.out hb (by first | omega | (simp; done) | (simp; omega)))
  replace K_b := Lib.hid (blk_below K_b.out hb (by first | omega | (simp; done) | (simp; omega)))
  replace K_c := Lib.hid (blk_below K_c.out hb (by first | omega | (simp; done) | (simp; omega)))
  clear hb
  have c_a_0 := blk_cell K_a.out 0; simp at c_a_0
  have c_a_1 := blk_cell K_a.out 1; simp at c_a_1
  have c_b_0 := blk_cell K_b.out 0; simp at c_b_0
  have c_b_1 := blk_cell K_b.out 1; simp at c_b_1
  have c_c_0 := blk_cell K_c.out 0; simp at c_c_0
  have c_c_1 := blk_cell K_c.out 1; simp at c_c_1
  go_wp2_with fail
  refine (add_any _ _ _ _ _).mono ?_; rintro e w6 ⟨rfl, hb⟩
  clear c_c_0 c_c_1
  have z6 := hb.size
  replace B := below_after B hb (by first | omega | (simp; done) | (simp; omega))
  replace K_a := Lib.hid (blk_below K_a.out hb (by first | omega | (simp; done) | (simp; omega)))
  replace K_b := Lib.hid (blk_below K_b.out hb (by first | omega | (simp; done) | (simp; omega)))
  replace K_c := Lib.hid (blk_below K_c.out hb (by first | omega | (simp; done) | (simp; omega)))
  clear hb
  clear c_a_0 c_a_1 c_b_0 c_b_1
  have l_b : w.heap.size + 1 < w6.heap.size := by omega
  have c_b_0 := blk_cell K_b.out 0; simp at c_b_0
  have c_b_1 := blk_cell K_b.out 1; simp at c_b_1
  have l_c : w.heap.size + 1 + 1 < w6.heap.size := by omega
  have c_c_0 := blk_cell K_c.out 0; simp at c_c_0
  have c_c_1 := blk_cell K_c.out 1; simp at c_c_1
  go_wp2_with fail
  refine (add_any _ _ _ _ _).mono ?_; rintro e w7 ⟨rfl, hb⟩
  clear c_b_0 c_b_1 l_b
  clear c_c_0 c_c_1 l_c
  have z7 := hb.size; simp at z7
  replace B := below_after (B.alloc (by first | omega | (simp; done) | (simp; omega)) _) hb (by first | omega | (simp; done) | (simp; omega))
  replace K_a := Lib.hid (blk_below (blk_alloc K_a.out _) hb (by first | omega | (simp; done) | (simp; omega)))
  replace K_b := Lib.hid (blk_below (blk_alloc K_b.out _) hb (by first | omega | (simp; done) | (simp; omega)))
  replace K_c := Lib.hid (blk_below (blk_alloc K_c.out _) hb (by first | omega | (simp; done) | (simp; omega)))
  have K_x := blk_below (blk_new _ _) hb (by first | omega | (simp; done) | (simp; omega))
  replace K_x := Lib.hid K_x
  clear hb
  have l_x : w6.heap.size < w7.heap.size := by omega
  have c_x_0 := blk_cell K_x.out 0; simp at c_x_0
  have c_x_1 := blk_cell K_x.out 1; simp at c_x_1
  go_wp2_with fail
  refine (less_any _ _ _ _ _).mono ?_; rintro e w8 ⟨rfl, hb⟩
  rw [s1, s2]
  clear c_x_0 c_x_1 l_x
  have z8 := hb.size; simp at z8
  replace B := below_after (B.alloc (by first | omega | (simp; done) | (simp; omega)) _) hb (by first | omega | (simp; done) | (simp; omega))
  replace K_a := Lib.hid (blk_below (blk_alloc K_a.out _) hb (by first | omega | (simp; done) | (simp; omega)))
  replace K_b := Lib.hid (blk_below (blk_alloc K_b.out _) hb (by first | omega | (simp; done) | (simp; omega)))
  replace K_c := Lib.hid (blk_below (blk_alloc K_c.out _) hb (by first | omega | (simp; done) | (simp; omega)))
  replace K_x := Lib.hid (blk_below (blk_alloc K_x.out _) hb (by first | omega | (simp; done) | (simp; omega)))
  have K_y := blk_below (blk_new _ _) hb (by first | omega | (simp; done) | (simp; omega))
  replace K_y := Lib.hid K_y
  clear hb
  have c_a_0 := blk_cell K_a.out 0; simp at c_a_0
  have c_a_1 := blk_cell K_a.out 1; simp at c_a_1
  have c_c_0 := blk_cell K_c.out 0; simp at c_c_0
  have c_c_1 := blk_cell K_c.out 1; simp at c_c_1
  go_wp2_with fail
  refine (mul_any _ _ _ _ _).mono ?_; rintro e w9 ⟨rfl, hb⟩
  clear c_a_0 c_a_1
  clear c_c_0 c_c_1
  have z9 := hb.size
  replace B := below_after B hb (by first | omega | (simp; done) | (simp; omega))
  replace K_a := Lib.hid (blk_below K_a.out hb (by first | omega | (simp; done) | (simp; omega)))
  replace K_b := Lib.hid (blk_below K_b.out hb (by first | omega | (simp; done) | (simp; omega)))
  replace K_c := Lib.hid (blk_below K_c.out hb (by first | omega | (simp; done) | (simp; omega)))
  replace K_x := Lib.hid (blk_below K_x.out hb (by first | omega | (simp; done) | (simp; omega)))
  replace K_y := Lib.hid (blk_below K_y.out hb (by first | omega | (simp; done) | (simp; omega)))
  clear hb
  have l_b : w.heap.size + 1 < w9.heap.size := by omega
  have c_b_0 := blk_cell K_b.out 0; simp at c_b_0
  have c_b_1 := blk_cell K_b.out 1; simp at c_b_1
  have l_c : w.heap.size + 1 + 1 < w9.heap.size := by omega
  have c_c_0 := blk_cell K_c.out 0; simp at c_c_0
  have c_c_1 := blk_cell K_c.out 1; simp at c_c_1
  go_wp2_with fail
  refine (mul_any _ _ _ _ _).mono ?_; rintro e w10 ⟨rfl, hb⟩
  clear c_b_0 c_b_1 l_b
  clear c_c_0 c_c_1 l_c
  have z10 := hb.size; simp at z10
  replace B := below_after (B.alloc (by first | omega | (simp; done) | (simp; omega)) _) hb (by first | omega | (simp; done) | (simp; omega))
  replace K_a := Lib.hid (blk_below (blk_alloc K_a.out _) hb (by first | omega | (simp; done) | (simp; omega)))
  replace K_b := Lib.hid (blk_below (blk_alloc K_b.out _) hb (by first | omega | (simp; done) | (simp; omega)))
  replace K_c := Lib.hid (blk_below (blk_alloc K_c.out _) hb (by first | omega | (simp; done) | (simp; omega)))
  replace K_x := Lib.hid (blk_below (blk_alloc K_x.out _) hb (by first | omega | (simp; done) | (simp; omega)))
  replace K_y := Lib.hid (blk_below (blk_alloc K_y.out _) hb (by first | omega | (simp; done) | (simp; omega)))
  have K_p := blk_below (blk_new _ _) hb (by first | omega | (simp; done) | (simp; omega))
  replace K_p := Lib.hid K_p
  clear hb
  go_wp2
  go_ret
  exact ⟨by simp, B.alloc (by first | omega | (simp; done) | (simp; omega)) _⟩

set_option maxRecDepth 100000 in
set_option maxHeartbeats 4000000 in
theorem rationalOrder_gt_tf_ttf (an ad bn bd cn cd : Int) (va : Valid an ad) (vb : Valid bn bd) (vc : Valid cn cd) (hab : lessV an ad bn bd = false) (hba : lessV bn bd an ad = true) (hne : ¬ an = bn) (hi : addE an ad cn cd = 0) (hj : addE bn bd cn cd ≠ 0) (hmi : mulE an ad cn cd = 0) (hmj : mulE bn bd cn cd = 0) (hp : cn ≤ 0) (w : World) :
    Calls Try.prog 8 #[.agg #[.int .i64 an, .int .i64 ad], .agg #[.int .i64 bn, .int .i64 bd], .agg #[.int .i64 cn, .int .i64 cd]] w fun e w' => e = .returned (.bool true) ∧ Below w.heap.size w w' := by
  have e1 : lessE an ad bn bd = 0 := if_pos ⟨va, vb⟩
  have e2 : lessE bn bd an ad = 0 := if_pos ⟨vb, va⟩
  have e3 : lessE bn bd cn cd = 0 := if_pos ⟨vb, vc⟩
  have e4 : lessE an ad cn cd = 0 := if_pos ⟨va, vc⟩
  have ti : (addE an ad cn cd == 0) = true := by simpa using hi
  have ui : (addE an ad cn cd != 0) = false := by simpa using hi
  have tj : (addE bn bd cn cd == 0) = false := by simpa using hj
  have uj : (addE bn bd cn cd != 0) = true := by simpa using hj
  have tmi : (mulE an ad cn cd == 0) = true := by simpa using hmi
  have umi : (mulE an ad cn cd != 0) = false := by simpa using hmi
  have tmj : (mulE bn bd cn cd == 0) = true := by simpa using hmj
  have umj : (mulE bn bd cn cd != 0) = false := by simpa using hmj
  clear va vc vb hi hj hmi hmj
  have B := Below.refl w.heap.size w
  go_enter Try.func8, Try.ntmps8
  go_wp2_with fail
  refine (sane_any _).mono ?_; rintro e w1 ⟨rfl, hb⟩
  have z1 := hb.size; simp at z1
  replace B := below_after (((B.alloc (by first | omega | (simp; done) | (simp; omega)) _).alloc (by first | omega | (simp; done) | (simp; omega)) _).alloc (by first | omega | (simp; done) | (simp; omega)) _) hb (by first | omega | (simp; done) | (simp; omega))
  have K_a := blk_below (blk_alloc (blk_alloc (blk_new _ _) _) _) hb (by first | omega | (simp; done) | (simp; omega))
  replace K_a := Lib.hid K_a
  have K_b := blk_below (blk_alloc (blk_new _ _) _) hb (by first | omega | (simp; done) | (simp; omega))
  rw [World.size_alloc] at K_b
  replace K_b := Lib.hid K_b
  have K_c := blk_below (blk_new _ _) hb (by first | omega | (simp; done) | (simp; omega))
  rw [World.size_alloc, World.size_alloc] at K_c
  replace K_c := Lib.hid K_c
  clear hb
  have c_a_0 := blk_cell K_a.out 0; simp at c_a_0
  have c_a_1 := blk_cell K_a.out 1; simp at c_a_1
  have c_b_0 := blk_cell K_b.out 0; simp at c_b_0
  have c_b_1 := blk_cell K_b.out 1; simp at c_b_1
  go_wp2_with fail
  refine (less_any _ _ _ _ _).mono ?_; rintro e w2 ⟨rfl, hb⟩
  rw [e1]
  clear c_a_0 c_a_1
  clear c_b_0 c_b_1
  have z2 := hb.size
  replace B := below_after B hb (by first | omega | (simp; done) | (simp; omega))
  replace K_a := Lib.hid (blk_below K_a.out hb (by first | omega | (simp; done) | (simp; omega)))
  replace K_b := Lib.hid (blk_below K_b.out hb (by first | omega | (simp; done) | (simp; omega)))
  replace K_c := Lib.hid (blk_below K_c.out hb (by first | omega | (simp; done) | (simp; omega)))
  clear hb
  have c_b_0 := blk_cell K_b.out 0; simp at c_b_0
  have c_b_1 := blk_cell K_b.out 1; simp at c_b_1
  have c_a_0 := blk_cell K_a.out 0; simp at c_a_0
  have c_a_1 := blk_cell K_a.out 1; simp at c_a_1
  go_wp2_with fail
  refine (less_any _ _ _ _ _).mono ?_; rintro e w3 ⟨rfl, hb⟩
  rw [e2]
  clear c_b_0 c_b_1
  clear c_a_0 c_a_1
  have z3 := hb.size
  replace B := below_after B hb (by first | omega | (simp; done) | (simp; omega))
  replace K_a := Lib.hid (blk_below K_a.out hb (by first | omega | (simp; done) | (simp; omega)))
  replace K_b := Lib.hid (blk_below K_b.out hb (by first | omega | (simp; done) | (simp; omega)))
  replace K_c := Lib.hid (blk_below K_c.out hb (by first | omega | (simp; done) | (simp; omega)))
  clear hb
  have c_b_0 := blk_cell K_b.out 0; simp at c_b_0
  have c_b_1 := blk_cell K_b.out 1; simp at c_b_1
  have c_c_0 := blk_cell K_c.out 0; simp at c_c_0
  have c_c_1 := blk_cell K_c.out 1; simp at c_c_1
  go_wp2_with fail
  refine (less_any _ _ _ _ _).mono ?_; rintro e w4 ⟨rfl, hb⟩
  rw [e3]
  clear c_b_0 c_b_1
  clear c_c_0 c_c_1
  have z4 := hb.size
  replace B := below_after B hb (by first | omega | (simp; done) | (simp; omega))
  replace K_a := Lib.hid (blk_below K_a.out hb (by first | omega | (simp; done) | (simp; omega)))
  replace K_b := Lib.hid (blk_below K_b.out hb (by first | omega | (simp; done) | (simp; omega)))
  replace K_c := Lib.hid (blk_below K_c.out hb (by first | omega | (simp; done) | (simp; omega)))
  clear hb
  have c_a_0 := blk_cell K_a.out 0; simp at c_a_0
  have c_a_1 := blk_cell K_a.out 1; simp at c_a_1
  have c_c_0 := blk_cell K_c.out 0; simp at c_c_0
  have c_c_1 := blk_cell K_c.out 1; simp at c_c_1
  go_wp2_with fail
  refine (less_any _ _ _ _ _).mono ?_; rintro e w5 ⟨rfl, hb⟩
  rw [e4]
  clear c_a_0 c_a_1
  clear c_c_0 c_c_1
  have z5 := hb.size
  replace B := below_after B hb (by first | omega | (simp; done) | (simp; omega))
  replace K_a := Lib.hid (blk_below K_a.out hb (by first | omega | (simp; done) | (simp; omega)))
  replace K_b := Lib.hid (blk_below K_b.out hb (by first | omega | (simp; done) | (simp; omega)))
  replace K_c := Lib.hid (blk_below K_c.out hb (by first | omega | (simp; done) | (simp; omega)))
  clear hb
  have c_a_0 := blk_cell K_a.out 0; simp at c_a_0
  have c_a_1 := blk_cell K_a.out 1; simp at c_a_1
  have c_b_0 := blk_cell K_b.out 0; simp at c_b_0
  have c_b_1 := blk_cell K_b.out 1; simp at c_b_1
  have c_c_0 := blk_cell K_c.out 0; simp at c_c_0
  have c_c_1 := blk_cell K_c.out 1; simp at c_c_1
  go_wp2_with fail
  refine (add_any _ _ _ _ _).mono ?_; rintro e w6 ⟨rfl, hb⟩
  clear c_c_0 c_c_1
  have z6 := hb.size
  replace B := below_after B hb (by first | omega | (simp; done) | (simp; omega))
  replace K_a := Lib.hid (blk_below K_a.out hb (by first | omega | (simp; done) | (simp; omega)))
  replace K_b := Lib.hid (blk_below K_b.out hb (by first | omega | (simp; done) | (simp; omega)))
  replace K_c := Lib.hid (blk_below K_c.out hb (by first | omega | (simp; done) | (simp; omega)))
  clear hb
  clear c_a_0 c_a_1 c_b_0 c_b_1
  have l_b : w.heap.size + 1 < w6.heap.size := by omega
  have c_b_0 := blk_cell K_b.out 0; simp at c_b_0
  have c_b_1 := blk_cell K_b.out 1; simp at c_b_1
  have l_c : w.heap.size + 1 + 1 < w6.heap.size := by omega
  have c_c_0 := blk_cell K_c.out 0; simp at c_c_0
  have c_c_1 := blk_cell K_c.out 1; simp at c_c_1
  go_wp2_with fail
  refine (add_any _ _ _ _ _).mono ?_; rintro e w7 ⟨rfl, hb⟩
  clear c_b_0 c_b_1 l_b
  clear c_c_0 c_c_1 l_c
  have z7 := hb.size; simp at z7
  replace B := below_after (B.alloc (by first | omega | (simp; done) | (simp; omega)) _) hb (by first | omega | (simp; done) | (simp; omega))
  replace K_a := Lib.hid (blk_below (blk_alloc K_a.out _) hb (by first | omega | (simp; done) | (simp; omega)))
  replace K_b := Lib.hid (blk_below (blk_alloc K_b.out _) hb (by first | omega | (simp; done) | (simp; omega)))
  replace K_c := Lib.hid (blk_below (blk_alloc K_c.out _) hb (by first | omega | (simp; done) | (simp; omega)))
  have K_x := blk_below (blk_new _ _) hb (by first | omega | (simp; done) | (simp; omega))
  replace K_x := Lib.hid K_x
  clear hb
  have l_a : w.heap.size < w7.heap.size := by omega
  have c_a_0 := blk_cell K_a.out 0; simp at c_a_0
  have c_a_1 := blk_cell K_a.out 1; simp at c_a_1
  have l_c : w.heap.size + 1 + 1 < w7.heap.size := by omega
  have c_c_0 := blk_cell K_c.out 0; simp at c_c_0
  have c_c_1 := blk_cell K_c.out 1; simp at c_c_1
  go_wp2_with fail
  refine (mul_any _ _ _ _ _).mono ?_; rintro e w8 ⟨rfl, hb⟩
  clear c_a_0 c_a_1 l_a
  clear c_c_0 c_c_1 l_c
  have z8 := hb.size; simp at z8
  replace B := below_after (B.alloc (by first | omega | (simp; done) | (simp; omega)) _) hb (by first | omega | (simp; done) | (simp; omega))
  replace K_a := Lib.hid (blk_below (blk_alloc K_a.out _) hb (by first | omega | (simp; done) | (simp; omega)))
  replace K_b := Lib.hid (blk_below (blk_alloc K_b.out _) hb (by first | omega | (simp; done) | (simp; omega)))
  replace K_c := Lib.hid (blk_below (blk_alloc K_c.out _) hb (by first | omega | (simp; done) | (simp; omega)))
  replace K_x := Lib.hid (blk_below (blk_alloc K_x.out _) hb (by first | omega | (simp; done) | (simp; omega)))
  have K_y := blk_below (blk_new _ _) hb (by first | omega | (simp; done) | (simp; omega))
  replace K_y := Lib.hid K_y
  clear hb
  have l_b : w.heap.size + 1 < w8.heap.size := by omega
  have c_b_0 := blk_cell K_b.out 0; simp at c_b_0
  have c_b_1 := blk_cell K_b.out 1; simp at c_b_1
  have l_c : w.heap.size + 1 + 1 < w8.heap.size := by omega
  have c_c_0 := blk_cell K_c.out 0; simp at c_c_0
  have c_c_1 := blk_cell K_c.out 1; simp at c_c_1
  go_wp2_with fail
  refine (mul_any _ _ _ _ _).mono ?_; rintro e w9 ⟨rfl, hb⟩
  clear c_b_0 c_b_1 l_b
  clear c_c_0 c_c_1 l_c
  have z9 := hb.size; simp at z9
  replace B := below_after (B.alloc (by first | omega | (simp; done) | (simp; omega)) _) hb (by first | omega | (simp; done) | (simp; omega))
  replace K_a := Lib.hid (blk_below (blk_alloc K_a.out _) hb (by first | omega | (simp; done) | (simp; omega)))
  replace K_b := Lib.hid (blk_below (blk_alloc K_b.out _) hb (by first | omega | (simp; done) | (simp; omega)))
  replace K_c := Lib.hid (blk_below (blk_alloc K_c.out _) hb (by first | omega | (simp; done) | (simp; omega)))
  replace K_x := Lib.hid (blk_below (blk_alloc K_x.out _) hb (by first | omega | (simp; done) | (simp; omega)))
  replace K_y := Lib.hid (blk_below (blk_alloc K_y.out _) hb (by first | omega | (simp; done) | (simp; omega)))
  have K_p := blk_below (blk_new _ _) hb (by first | omega | (simp; done) | (simp; omega))
  replace K_p := Lib.hid K_p
  clear hb
  have l_c : w.heap.size + 1 + 1 < w9.heap.size := by omega
  have c_c_0 := blk_cell K_c.out 0; simp at c_c_0
  have c_c_1 := blk_cell K_c.out 1; simp at c_c_1
  go_wp2
  go_ret
  exact ⟨by simp, B.alloc (by first | omega | (simp; done) | (simp; omega)) _⟩

set_option maxRecDepth 100000 in
set_option maxHeartbeats 4000000 in
theorem rationalOrder_gt_tf_fnn (an ad bn bd cn cd : Int) (va : Valid an ad) (vb : Valid bn bd) (vc : Valid cn cd) (hab : lessV an ad bn bd = false) (hba : lessV bn bd an ad = true) (hne : ¬ an = bn) (hi : addE an ad cn cd = 0) (hj : addE bn bd cn cd ≠ 0) (hmi : mulE an ad cn cd ≠ 0) (w : World) :
    Calls Try.prog 8 #[.agg #[.int .i64 an, .int .i64 ad], .agg #[.int .i64 bn, .int .i64 bd], .agg #[.int .i64 cn, .int .i64 cd]] w fun e w' => e = .returned (.bool true) ∧ Below w.heap.size w w' := by
  have e1 : lessE an ad bn bd = 0 := if_pos ⟨va, vb⟩
  have e2 : lessE bn bd an ad = 0 := if_pos ⟨vb, va⟩
  have e3 : lessE bn bd cn cd = 0 := if_pos ⟨vb, vc⟩
  have e4 : lessE an ad cn cd = 0 := if_pos ⟨va, vc⟩
  have ti : (addE an ad cn cd == 0) = true := by simpa using hi
  have ui : (addE an ad cn cd != 0) = false := by simpa using hi
  have tj : (addE bn bd cn cd == 0) = false := by simpa using hj
  have uj : (addE bn bd cn cd != 0) = true := by simpa using hj
  have tmi : (mulE an ad cn cd == 0) = false := by simpa using hmi
  have umi : (mulE an ad cn cd != 0) = true := by simpa using hmi
  clear va vc vb hi hj hmi
  have B := Below.refl w.heap.size w
  go_enter Try.func8, Try.ntmps8
  go_wp2_with fail
  refine (sane_any _).mono ?_; rintro e w1 ⟨rfl, hb⟩
  have z1 := hb.size; simp at z1
  replace B := below_after (((B.alloc (by first | omega | (simp; done) | (simp; omega)) _).alloc (by first | omega | (simp; done) | (simp; omega)) _).alloc (by first | omega | (simp; done) | (simp; omega)) _) hb (by first | omega | (simp; done) | (simp; omega))
  have K_a := blk_below (blk_alloc (blk_alloc (blk_new _ _) _) _) hb (by first | omega | (simp; done) | (simp; omega))
  replace K_a := Lib.hid K_a
  have K_b := blk_below (blk_alloc (blk_new _ _) _) hb (by first | omega | (simp; done) | (simp; omega))
  rw [World.size_alloc] at K_b
  replace K_b := Lib.hid K_b
  have K_c := blk_below (blk_new _ _) hb (by first | omega | (simp; done) | (simp; omega))
  rw [World.size_alloc, World.size_alloc] at K_c
  replace K_c := Lib.hid K_c
  clear hb
  have c_a_0 := blk_cell K_a.out 0; simp at c_a_0
  have c_a_1 := blk_cell K_a.out 1; simp at c_a_1
  have c_b_0 := blk_cell K_b.out 0; simp at c_b_0
  have c_b_1 := blk_cell K_b.out 1; simp at c_b_1
  go_wp2_with fail
  refine (less_any _ _ _ _ _).mono ?_; rintro e w2 ⟨rfl, hb⟩
  rw [e1]
  clear c_a_0 c_a_1
  clear c_b_0 c_b_1
  have z2 := hb.size
  replace B := below_after B hb (by first | omega | (simp; done) | (simp; omega))
  replace K_a := Lib.hid (blk_below K_a.out hb (by first | omega | (simp; done) | (simp; omega)))
  replace K_b := Lib.hid (blk_below K_b.out hb (by first | omega | (simp; done) | (simp; omega)))
  replace K_c := Lib.hid (blk_below K_c.out hb (by first | omega | (simp; done) | (simp; omega)))
  clear hb
  have c_b_0 := blk_cell K_b.out 0; simp at c_b_0
  have c_b_1 := blk_cell K_b.out 1; simp at c_b_1
  have c_a_0 := blk_cell K_a.out 0; simp at c_a_0
  have c_a_1 := blk_cell K_a.out 1; simp at c_a_1
  go_wp2_with fail
  refine (less_any _ _ _ _ _).mono ?_; rintro e w3 ⟨rfl, hb⟩
  rw [e2]
  clear c_b_0 c_b_1
  clear c_a_0 c_a_1
  have z3 := hb.size
  replace B := below_after B hb (by first | omega | (simp; done) | (simp; omega))
  replace K_a := Lib.hid (blk_below K_a.out hb (by first | omega | (simp; done) | (simp; omega)))
  replace K_b := Lib.hid (blk_below K_b.out hb (by first | omega | (simp; done) | (simp; omega)))
  replace K_c := Lib.hid (blk_below K_c.out hb (by first | omega | (simp; done) | (simp; omega)))
  clear hb
  have c_b_0 := blk_cell K_b.out 0; simp at c_b_0
  have c_b_1 := blk_cell K_b.out 1; simp at c_b_1
  have c_c_0 := blk_cell K_c.out 0; simp at c_c_0
  have c_c_1 := blk_cell K_c.out 1; simp at c_c_1
  go_wp2_with fail
  refine (less_any _ _ _ _ _).mono ?_; rintro e w4 ⟨rfl, hb⟩
  rw [e3]
  clear c_b_0 c_b_1
  clear c_c_0 c_c_1
  have z4 := hb.size
  replace B := below_after B hb (by first | omega | (simp; done) | (simp; omega))
  replace K_a := Lib.hid (blk_below K_a.out hb (by first | omega | (simp; done) | (simp; omega)))
  replace K_b := Lib.hid (blk_below K_b.out hb (by first | omega | (simp; done) | (simp; omega)))
  replace K_c := Lib.hid (blk_below K_c.out hb (by first | omega | (simp; done) | (simp; omega)))
  clear hb
  have c_a_0 := blk_cell K_a.out 0; simp at c_a_0
  have c_a_1 := blk_cell K_a.out 1; simp at c_a_1
  have c_c_0 := blk_cell K_c.out 0; simp at c_c_0
  have c_c_1 := blk_cell K_c.out 1; simp at c_c_1
  go_wp2_with fail
  refine (less_any _ _ _ _ _).mono ?_; rintro e w5 ⟨rfl, hb⟩
  rw [e4]
  clear c_a_0 c_a_1
  clear c_c_0 c_c_1
  have z5 := hb.size
  replace B := below_after B hb (by first | omega | (simp; done) | (simp; omega))
  replace K_a := Lib.hid (blk_below K_a.out hb (by first | omega | (simp; done) | (simp; omega)))
  replace K_b := Lib.hid (blk_below K_b.out hb (by first | omega | (simp; done) | (simp; omega)))
  replace K_c := Lib.hid (blk_below K_c.out hb (by first | omega | (simp; done) | (simp; omega)))
  clear hb
  have c_a_0 := blk_cell K_a.out 0; simp at c_a_0
  have c_a_1 := blk_cell K_a.out 1; simp at c_a_1
  have c_b_0 := blk_cell K_b.out 0; simp at c_b_0
  have c_b_1 := blk_cell K_b.out 1; simp at c_b_1
  have c_c_0 := blk_cell K_c.out 0; simp at c_c_0
  have c_c_1 := blk_cell K_c.out 1; simp at c_c_1
  go_wp2_with fail
  refine (add_any _ _ _ _ _).mono ?_; rintro e w6 ⟨rfl, hb⟩
  clear c_c_0 c_c_1
  have z6 := hb.size
  replace B := below_after B hb (by first | omega | (simp; done) | (simp; omega))
  replace K_a := Lib.hid (blk_below K_a.out hb (by first | omega | (simp; done) | (simp; omega)))
  replace K_b := Lib.hid (blk_below K_b.out hb (by first | omega | (simp; done) | (simp; omega)))
  replace K_c := Lib.hid (blk_below K_c.out hb (by first | omega | (simp; done) | (simp; omega)))
  clear hb
  clear c_a_0 c_a_1 c_b_0 c_b_1
  have l_b : w.heap.size + 1 < w6.heap.size := by omega
  have c_b_0 := blk_cell K_b.out 0; simp at c_b_0
  have c_b_1 := blk_cell K_b.out 1; simp at c_b_1
  have l_c : w.heap.size + 1 + 1 < w6.heap.size := by omega
  have c_c_0 := blk_cell K_c.out 0; simp at c_c_0
  have c_c_1 := blk_cell K_c.out 1; simp at c_c_1
  go_wp2_with fail
  refine (add_any _ _ _ _ _).mono ?_; rintro e w7 ⟨rfl, hb⟩
  clear c_b_0 c_b_1 l_b
  clear c_c_0 c_c_1 l_c
  have z7 := hb.size; simp at z7
  replace B := below_after (B.alloc (by first | omega | (simp; done) | (simp; omega)) _) hb (by first | omega | (simp; done) | (simp; omega))
  replace K_a := Lib.hid (blk_below (blk_alloc K_a.out _) hb (by first | omega | (simp; done) | (simp; omega)))
  replace K_b := Lib.hid (blk_below (blk_alloc K_b.out _) hb (by first | omega | (simp; done) | (simp; omega)))
  replace K_c := Lib.hid (blk_below (blk_alloc K_c.out _) hb (by first | omega | (simp; done) | (simp; omega)))
  have K_x := blk_below (blk_new _ _) hb (by first | omega | (simp; done) | (simp; omega))
  replace K_x := Lib.hid K_x
  clear hb
  have l_a : w.heap.size < w7.heap.size := by omega
  have c_a_0 := blk_cell K_a.out 0; simp at c_a_0
  have c_a_1 := blk_cell K_a.out 1; simp at c_a_1
  have l_c : w.heap.size + 1 + 1 < w7.heap.size := by omega
  have c_c_0 := blk_cell K_c.out 0; simp at c_c_0
  have c_c_1 := blk_cell K_c.out 1; simp at c_c_1
  go_wp2_with fail
  refine (mul_any _ _ _ _ _).mono ?_; rintro e w8 ⟨rfl, hb⟩
  clear c_a_0 c_a_1 l_a
  clear c_c_0 c_c_1 l_c
  have z8 := hb.size; simp at z8
  replace B := below_after (B.alloc (by first | omega | (simp; done) | (simp; omega)) _) hb (by first | omega | (simp; done) | (simp; omega))
  replace K_a := Lib.hid (blk_below (blk_alloc K_a.out _) hb (by first | omega | (simp; done) | (simp; omega)))
  replace K_b := Lib.hid (blk_below (blk_alloc K_b.out _) hb (by first | omega | (simp; done) | (simp; omega)))
  replace K_c := Lib.hid (blk_below (blk_alloc K_c.out _) hb (by first | omega | (simp; done) | (simp; omega)))
  replace K_x := Lib.hid (blk_below (blk_alloc K_x.out _) hb (by first | omega | (simp; done) | (simp; omega)))
  have K_y := blk_below (blk_new _ _) hb (by first | omega | (simp; done) | (simp; omega))
  replace K_y := Lib.hid K_y
  clear hb
  have l_b : w.heap.size + 1 < w8.heap.size := by omega
  have c_b_0 := blk_cell K_b.out 0; simp at c_b_0
  have c_b_1 := blk_cell K_b.out 1; simp at c_b_1
  have l_c : w.heap.size + 1 + 1 < w8.heap.size := by omega
  have c_c_0 := blk_cell K_c.out 0; simp at c_c_0
  have c_c_1 := blk_cell K_c.out 1; simp at c_c_1
  go_wp2_with fail
  refine (mul_any _ _ _ _ _).mono ?_; rintro e w9 ⟨rfl, hb⟩
  clear c_b_0 c_b_1 l_b
  clear c_c_0 c_c_1 l_c
  have z9 := hb.size; simp at z9
  replace B := below_after (B.alloc (by first | omega | (simp; done) | (simp; omega)) _) hb (by first | omega | (simp; done) | (simp; omega))
  replace K_a := Lib.hid (blk_below (blk_alloc K_a.out _) hb (by first | omega | (simp; done) | (simp; omega)))
  replace K_b := Lib.hid (blk_below (blk_alloc K_b.out _) hb (by first | omega | (simp; done) | (simp; omega)))
  replace K_c := Lib.hid (blk_below (blk_alloc K_c.out _) hb (by first | omega | (simp; done) | (simp; omega)))
  replace K_x := Lib.hid (blk_below (blk_alloc K_x.out _) hb (by first | omega | (simp; done) | (simp; omega)))
  replace K_y := Lib.hid (blk_below (blk_alloc K_y.out _) hb (by first | omega | (simp; done) | (simp; omega)))
  have K_p := blk_below (blk_new _ _) hb (by first | omega | (simp; done) | (simp; omega))
  replace K_p := Lib.hid K_p
  clear hb
  go_wp2
  go_ret
  exact ⟨by simp, B.alloc (by first | omega | (simp; done) | (simp; omega)) _⟩

set_option maxRecDepth 100000 in
set_option maxHeartbeats 4000000 in
theorem rationalOrder_gt_fn_ttf (an ad bn bd cn cd : Int) (va : Valid an ad) (vb : Valid bn bd) (vc : Valid cn cd) (hab : lessV an ad bn bd = false) (hba : lessV bn bd an ad = true) (hne : ¬ an = bn) (hi : addE an ad cn cd ≠ 0) (hmi : mulE an ad cn cd = 0) (hmj : mulE bn bd cn cd = 0) (hp : cn ≤ 0) (w : World) :
    Calls Try.prog 8 #[.agg #[.int .i64 an, .int .i64 ad], .agg #[.int .i64 bn, .int .i64 bd], .agg #[.int .i64 cn, .int .i64 cd]] w fun e w' => e = .returned (.bool true) ∧ Below w.heap.size w w' := by
  have e1 : lessE an ad bn bd = 0 := if_pos ⟨va, vb⟩
  have e2 : lessE bn bd an ad = 0 := if_pos ⟨vb, va⟩
  have e3 : lessE bn bd cn cd = 0 := if_pos ⟨vb, vc⟩
  have e4 : lessE an ad cn cd = 0 := if_pos ⟨va, vc⟩
  have ti : (addE an ad cn cd == 0) = false := by simpa using hi
  have ui : (addE an ad cn cd != 0) = true := by simpa using hi
  have tmi : (mulE an ad cn cd == 0) = true := by simpa using hmi
  have umi : (mulE an ad cn cd != 0) = false := by simpa using hmi
  have tmj : (mulE bn bd cn cd == 0) = true := by simpa using hmj
  have umj : (mulE bn bd cn cd != 0) = false := by simpa using hmj
  clear va vc vb hi hmi hmj
  have B := Below.refl w.heap.size w
  go_enter Try.func8, Try.ntmps8
  go_wp2_with fail
  refine (sane_any _).mono ?_; rintro e w1 ⟨rfl, hb⟩
  have z1 := hb.size; simp at z1
  replace B := below_after (((B.alloc (by first | omega | (simp; done) | (simp; omega)) _).alloc (by first | omega | (simp; done) | (simp; omega)) _).alloc (by first | omega | (simp; done) | (simp; omega)) _) hb (by first | omega | (simp; done) | (simp; omega))
  have K_a := blk_below (blk_alloc (blk_alloc (blk_new _ _) _) _) hb (by first | omega | (simp; done) | (simp; omega))
  replace K_a := Lib.hid K_a
  have K_b := blk_below (blk_alloc (blk_new _ _) _) hb (by first | omega | (simp; done) | (simp; omega))
  rw [World.size_alloc] at K_b
  replace K_b := Lib.hid K_b
  have K_c := blk_below (blk_new _ _) hb (by first | omega | (simp; done) | (simp; omega))
  rw [World.size_alloc, World.size_alloc] at K_c
  replace K_c := Lib.hid K_c
  clear hb
  have c_a_0 := blk_cell K_a.out 0; simp at c_a_0
  have c_a_1 := blk_cell K_a.out 1; simp at c_a_1
  have c_b_0 := blk_cell K_b.out 0; simp at c_b_0
  have c_b_1 := blk_cell K_b.out 1; simp at c_b_1
  go_wp2_with fail
  refine (less_any _ _ _ _ _).mono ?_; rintro e w2 ⟨rfl, hb⟩
  rw [e1]
  clear c_a_0 c_a_1
  clear c_b_0 c_b_1
  have z2 := hb.size
  replace B := below_after B hb (by first | omega | (simp; done) | (simp; omega))
  replace K_a := Lib.hid (blk_below K_a.out hb (by first | omega | (simp; done) | (simp; omega)))
  replace K_b := Lib.hid (blk_below K_b.out hb (by first | omega | (simp; done) | (simp; omega)))
  replace K_c := Lib.hid (blk_below K_c.out hb (by first | omega | (simp; done) | (simp; omega)))
  clear hb
  have c_b_0 := blk_cell K_b.out 0; simp at c_b_0
  have c_b_1 := blk_cell K_b.out 1; simp at c_b_1
  have c_a_0 := blk_cell K_a.out 0; simp at c_a_0
  have c_a_1 := blk_cell K_a.out 1; simp at c_a_1
  go_wp2_with fail
  refine (less_any _ _ _ _ _).mono ?_; rintro e w3 ⟨rfl, hb⟩
  rw [e2]
  clear c_b_0 c_b_1
  clear c_a_0 c_a_1
  have z3 := hb.size
  replace B := below_after B hb (by first | omega | (simp; done) | (simp; omega))
  replace K_a := Lib.hid (blk_below K_a.out hb (by first | omega | (simp; done) | (simp; omega)))
  replace K_b := Lib.hid (blk_below K_b.out hb (by first | omega | (simp; done) | (simp; omega)))
  replace K_c := Lib.hid (blk_below K_c.out hb (by first | omega | (simp; done) | (simp; omega)))
  clear hb
  have c_b_0 := blk_cell K_b.out 0; simp at c_b_0
  have c_b_1 := blk_cell K_b.out 1; simp at c_b_1
  have c_c_0 := blk_cell K_c.out 0; simp at c_c_0
  have c_c_1 := blk_cell K_c.out 1; simp at c_c_1
  go_wp2_with fail
  refine (less_any _ _ _ _ _).mono ?_; rintro e w4 ⟨rfl, hb⟩
  rw [e3]
  clear c_b_0 c_b_1
  clear c_c_0 c_c_1
  have z4 := hb.size
  replace B := below_after B hb (by first | omega | (simp; done) | (simp; omega))
  replace K_a := Lib.hid (blk_below K_a.out hb (by first | omega | (simp; done) | (simp; omega)))
  replace K_b := Lib.hid (blk_below K_b.out hb (by first | omega | (simp; done) | (simp; omega)))
  replace K_c := Lib.hid (blk_below K_c.out hb (by first | omega | (simp; done) | (simp; omega)))
  clear hb
  have c_a_0 := blk_cell K_a.out 0; simp at c_a_0
  have c_a_1 := blk_cell K_a.out 1; simp at c_a_1
  have c_c_0 := blk_cell K_c.out 0; simp at c_c_0
  have c_c_1 := blk_cell K_c.out 1; simp at c_c_1
  go_wp2_with fail
  refine (less_any _ _ _ _ _).mono ?_; rintro e w5 ⟨rfl, hb⟩
  rw [e4]
  clear c_a_0 c_a_1
  clear c_c_0 c_c_1
  have z5 := hb.size
  replace B := below_after B hb (by first | omega | (simp; done) | (simp; omega))
  replace K_a := Lib.hid (blk_below K_a.out hb (by first | omega | (simp; done) | (simp; omega)))
  replace K_b := Lib.hid (blk_below K_b.out hb (by first | omega | (simp; done) | (simp; omega)))
  replace K_c := Lib.hid (blk_below K_c.out hb (by first | omega | (simp; done) | (simp; omega)))
  clear hb
  have c_a_0 := blk_cell K_a.out 0; simp at c_a_0
  have c_a_1 := blk_cell K_a.out 1; simp at c_a_1
  have c_b_0 := blk_cell K_b.out 0; simp at c_b_0
  have c_b_1 := blk_cell K_b.out 1; simp at c_b_1
  have c_c_0 := blk_cell K_c.out 0; simp at c_c_0
  have c_c_1 := blk_cell K_c.out 1; simp at c_c_1
  go_wp2_with fail
  refine (add_any _ _ _ _ _).mono ?_; rintro e w6 ⟨rfl, hb⟩
  clear c_c_0 c_c_1
  have z6 := hb.size
  replace B := below_after B hb (by first | omega | (simp; done) | (simp; omega))
  replace K_a := Lib.hid (blk_below K_a.out hb (by first | omega | (simp; done) | (simp; omega)))
  replace K_b := Lib.hid (blk_below K_b.out hb (by first | omega | (simp; done) | (simp; omega)))
  replace K_c := Lib.hid (blk_below K_c.out hb (by first | omega | (simp; done) | (simp; omega)))
  clear hb
  clear c_a_0 c_a_1 c_b_0 c_b_1
  have l_b : w.heap.size + 1 < w6.heap.size := by omega
  have c_b_0 := blk_cell K_b.out 0; simp at c_b_0
  have c_b_1 := blk_cell K_b.out 1; simp at c_b_1
  have l_c : w.heap.size + 1 + 1 < w6.heap.size := by omega
  have c_c_0 := blk_cell K_c.out 0; simp at c_c_0
  have c_c_1 := blk_cell K_c.out 1; simp at c_c_1
  go_wp2_with fail
  refine (add_any _ _ _ _ _).mono ?_; rintro e w7 ⟨rfl, hb⟩
  clear c_b_0 c_b_1 l_b
  clear c_c_0 c_c_1 l_c
  have z7 := hb.size; simp at z7
  replace B := below_after (B.alloc (by first | omega | (simp; done) | (simp; omega)) _) hb (by first | omega | (simp; done) | (simp; omega))
  replace K_a := Lib.hid (blk_below (blk_alloc K_a.out _) hb (by first | omega | (simp; done) | (simp; omega)))
  replace K_b := Lib.hid (blk_below (blk_alloc K_b.out _) hb (by first | omega | (simp; done) | (simp; omega)))
  replace K_c := Lib.hid (blk_below (blk_alloc K_c.out _) hb (by first | omega | (simp; done) | (simp; omega)))
  have K_x := blk_below (blk_new _ _) hb (by first | omega | (simp; done) | (simp; omega))
  replace K_x := Lib.hid K_x
  clear hb
  have l_a : w.heap.size < w7.heap.size := by omega
  have c_a_0 := blk_cell K_a.out 0; simp at c_a_0
  have c_a_1 := blk_cell K_a.out 1; simp at c_a_1
  have l_c : w.heap.size + 1 + 1 < w7.heap.size := by omega
  have c_c_0 := blk_cell K_c.out 0; simp at c_c_0
  have c_c_1 := blk_cell K_c.out 1; simp at c_c_1
  go_wp2_with fail
  refine (mul_any _ _ _ _ _).mono ?_; rintro e w8 ⟨rfl, hb⟩
  clear c_a_0 c_a_1 l_a
  clear c_c_0 c_c_1 l_c
  have z8 := hb.size; simp at z8
  replace B := below_after (B.alloc (by first | omega | (simp; done) | (simp; omega)) _) hb (by first | omega | (simp; done) | (simp; omega))
  replace K_a := Lib.hid (blk_below (blk_alloc K_a.out _) hb (by first | omega | (simp; done) | (simp; omega)))
  replace K_b := Lib.hid (blk_below (blk_alloc K_b.out _) hb (by first | omega | (simp; done) | (simp; omega)))
  replace K_c := Lib.hid (blk_below (blk_alloc K_c.out _) hb (by first | omega | (simp; done) | (simp; omega)))
  replace K_x := Lib.hid (blk_below (blk_alloc K_x.out _) hb (by first | omega | (simp; done) | (simp; omega)))
  have K_y := blk_below (blk_new _ _) hb (by first | omega | (simp; done) | (simp; omega))
  replace K_y := Lib.hid K_y
  clear hb
  have l_b : w.heap.size + 1 < w8.heap.size := by omega
  have c_b_0 := blk_cell K_b.out 0; simp at c_b_0
  have c_b_1 := blk_cell K_b.out 1; simp at c_b_1
  have l_c : w.heap.size + 1 + 1 < w8.heap.size := by omega
  have c_c_0 := blk_cell K_c.out 0; simp at c_c_0
  have c_c_1 := blk_cell K_c.out 1; simp at c_c_1
  go_wp2_with fail
  refine (mul_any _ _ _ _ _).mono ?_; rintro e w9 ⟨rfl, hb⟩
  clear c_b_0 c_b_1 l_b
  clear c_c_0 c_c_1 l_c
  have z9 := hb.size; simp at z9
  replace B := below_after (B.alloc (by first | omega | (simp; done) | (simp; omega)) _) hb (by first | omega | (simp; done) | (simp; omega))
  replace K_a := Lib.hid (blk_below (blk_alloc K_a.out _) hb (by first | omega | (simp; done) | (simp; omega)))
  replace K_b := Lib.hid (blk_below (blk_alloc K_b.out _) hb (by first | omega | (simp; done) | (simp; omega)))
  replace K_c := Lib.hid (blk_below (blk_alloc K_c.out _) hb (by first | omega | (simp; done) | (simp; omega)))
  replace K_x := Lib.hid (blk_below (blk_alloc K_x.out _) hb (by first | omega | (simp; done) | (simp; omega)))
  replace K_y := Lib.hid (blk_below (blk_alloc K_y.out _) hb (by first | omega | (simp; done) | (simp; omega)))
  have K_p := blk_below (blk_new _ _) hb (by first | omega | (simp; done) | (simp; omega))
  replace K_p := Lib.hid K_p
  clear hb
  have l_c : w.heap.size + 1 + 1 < w9.heap.size := by omega
  have c_c_0 := blk_cell K_c.out 0; simp at c_c_0
  have c_c_1 := blk_cell K_c.out 1; simp at c_c_1
  go_wp2
  go_ret
  exact ⟨by simp, B.alloc (by first | omega | (simp; done) | (simp; omega)) _⟩

set_option maxRecDepth 100000 in
set_option maxHeartbeats 4000000 in
theorem rationalOrder_gt_fn_fnn (an ad bn bd cn cd : Int) (va : Valid an ad) (vb : Valid bn bd) (vc : Valid cn cd) (hab : lessV an ad bn bd = false) (hba : lessV bn bd an ad = true) (hne : ¬ an = bn) (hi : addE an ad cn cd ≠ 0) (hmi : mulE an ad cn cd ≠ 0) (w : World) :
    Calls Try.prog 8 #[.agg #[.int .i64 an, .int .i64 ad], .agg #[.int .i64 bn, .int .i64 bd], .agg #[.int .i64 cn, .int .i64 cd]] w fun e w' => e = .returned (.bool true) ∧ Below w.heap.size w w' := by
  have e1 : lessE an ad bn bd = 0 := if_pos ⟨va, vb⟩
  have e2 : lessE bn bd an ad = 0 := if_pos ⟨vb, va⟩
  have e3 : lessE bn bd cn cd = 0 := if_pos ⟨vb, vc⟩
  have e4 : lessE an ad cn cd = 0 := if_pos ⟨va, vc⟩
  have ti : (addE an ad cn cd == 0) = false := by simpa using hi
  have ui : (addE an ad cn cd != 0) = true := by simpa using hi
  have tmi : (mulE an ad cn cd == 0) = false := by simpa using hmi
  have umi : (mulE an ad cn cd != 0) = true := by simpa using hmi
  clear va vc vb hi hmi
  have B := Below.refl w.heap.size w
  go_enter Try.func8, Try.ntmps8
  go_wp2_with fail
  refine (sane_any _).mono ?_; rintro e w1 ⟨rfl, hb⟩
  have z1 := hb.size; simp at z1
  replace B := below_after (((B.alloc (by first | omega | (simp; done) | (simp; omega)) _).alloc (by first | omega | (simp; done) | (simp; omega)) _).alloc (by first | omega | (simp; done) | (simp; omega)) _) hb (by first | omega | (simp; done) | (simp; omega))
  have K_a := blk_below (blk_alloc (blk_alloc (blk_new _ _) _) _) hb (by first | omega | (simp; done) | (simp; omega))
  replace K_a := Lib.hid K_a
  have K_b := blk_below (blk_alloc (blk_new _ _) _) hb (by first | omega | (simp; done) | (simp; omega))
  rw [World.size_alloc] at K_b
  replace K_b := Lib.hid K_b
  have K_c := blk_below (blk_new _ _) hb (by first | omega | (simp; done) | (simp; omega))
  rw [World.size_alloc, World.size_alloc] at K_c
  replace K_c := Lib.hid K_c
  clear hb
  have c_a_0 := blk_cell K_a.out 0; simp at c_a_0
  have c_a_1 := blk_cell K_a.out 1; simp at c_a_1
  have c_b_0 := blk_cell K_b.out 0; simp at c_b_0
  have c_b_1 := blk_cell K_b.out 1; simp at c_b_1
  go_wp2_with fail
  refine (less_any _ _ _ _ _).mono ?_; rintro e w2 ⟨rfl, hb⟩
  rw [e1]
  clear c_a_0 c_a_1
  clear c_b_0 c_b_1
  have z2 := hb.size
  replace B := below_after B hb (by first | omega | (simp; done) | (simp; omega))
  replace K_a := Lib.hid (blk_below K_a.out hb (by first | omega | (simp; done) | (simp; omega)))
  replace K_b := Lib.hid (blk_below K_b.out hb (by first | omega | (simp; done) | (simp; omega)))
  replace K_c := Lib.hid (blk_below K_c.out hb (by first | omega | (simp; done) | (simp; omega)))
  clear hb
  have c_b_0 := blk_cell K_b.out 0; simp at c_b_0
  have c_b_1 := blk_cell K_b.out 1; simp at c_b_1
  have c_a_0 := blk_cell K_a.out 0; simp at c_a_0
  have c_a_1 := blk_cell K_a.out 1; simp at c_a_1
  go_wp2_with fail
  refine (less_any _ _ _ _ _).mono ?_; rintro e w3 ⟨rfl, hb⟩
  rw [e2]
  clear c_b_0 c_b_1
  clear c_a_0 c_a_1
  have z3 := hb.size
  replace B := below_after B hb (by first | omega | (simp; done) | (simp; omega))
  replace K_a := Lib.hid (blk_below K_a.out hb (by first | omega | (simp; done) | (simp; omega)))
  replace K_b := Lib.hid (blk_below K_b.out hb (by first | omega | (simp; done) | (simp; omega)))
  replace K_c := Lib.hid (blk_below K_c.out hb (by first | omega | (simp; done) | (simp; omega)))
  clear hb
  have c_b_0 := blk_cell K_b.out 0; simp at c_b_0
  have c_b_1 := blk_cell K_b.out 1; simp at c_b_1
  have c_c_0 := blk_cell K_c.out 0; simp at c_c_0
  have c_c_1 := blk_cell K_c.out 1; simp at c_c_1
  go_wp2_with fail
  refine (less_any _ _ _ _ _).mono ?_; rintro e w4 ⟨rfl, hb⟩
  rw [e3]
  clear c_b_0 c_b_1
  clear c_c_0 c_c_1
  have z4 := hb.size
  replace B := below_after B hb (by first | omega | (simp; done) | (simp; omega))
  replace K_a := Lib.hid (blk_below K_a.out hb (by first | omega | (simp; done) | (simp; omega)))
  replace K_b := Lib.hid (blk_below K_b.out hb (by first | omega | (simp; done) | (simp; omega)))
  replace K_c := Lib.hid (blk_below K_c.out hb (by first | omega | (simp; done) | (simp; omega)))
  clear hb
  have c_a_0 := blk_cell K_a.out 0; simp at c_a_0
  have c_a_1 := blk_cell K_a.out 1; simp at c_a_1
  have c_c_0 := blk_cell K_c.out 0; simp at c_c_0
  have c_c_1 := blk_cell K_c.out 1; simp at c_c_1
  go_wp2_with fail
  refine (less_any _ _ _ _ _).mono ?_; rintro e w5 ⟨rfl, hb⟩
  rw [e4]
  clear c_a_0 c_a_1
  clear c_c_0 c_c_1
  have z5 := hb.size
  replace B := below_after B hb (by first | omega | (simp; done) | (simp; omega))
  replace K_a := Lib.hid (blk_below K_a.out hb (by first | omega | (simp; done) | (simp; omega)))
  replace K_b := Lib.hid (blk_below K_b.out hb (by first | omega | (simp; done) | (simp; omega)))
  replace K_c := Lib.hid (blk_below K_c.out hb (by first | omega | (simp; done) | (simp; omega)))
  clear hb
  have c_a_0 := blk_cell K_a.out 0; simp at c_a_0
  have c_a_1 := blk_cell K_a.out 1; simp at c_a_1
  have c_b_0 := blk_cell K_b.out 0; simp at c_b_0
  have c_b_1 := blk_cell K_b.out 1; simp at c_b_1
  have c_c_0 := blk_cell K_c.out 0; simp at c_c_0
  have c_c_1 := blk_cell K_c.out 1; simp at c_c_1
  go_wp2_with fail
  refine (add_any _ _ _ _ _).mono ?_; rintro e w6 ⟨rfl, hb⟩
  clear c_c_0 c_c_1
  have z6 := hb.size
  replace B := below_after B hb (by first | omega | (simp; done) | (simp; omega))
  replace K_a := Lib.hid (blk_below K_a.out hb (by first | omega | (simp; done) | (simp; omega)))
  replace K_b := Lib.hid (blk_below K_b.out hb (by first | omega | (simp; done) | (simp; omega)))
  replace K_c := Lib.hid (blk_below K_c.out hb (by first | omega | (simp; done) | (simp; omega)))
  clear hb
  clear c_a_0 c_a_1 c_b_0 c_b_1
  have l_b : w.heap.size + 1 < w6.heap.size := by omega
  have c_b_0 := blk_cell K_b.out 0; simp at c_b_0
  have c_b_1 := blk_cell K_b.out 1; simp at c_b_1
  have l_c : w.heap.size + 1 + 1 < w6.heap.size := by omega
  have c_c_0 := blk_cell K_c.out 0; simp at c_c_0
  have c_c_1 := blk_cell K_c.out 1; simp at c_c_1
  go_wp2_with fail
  refine (add_any _ _ _ _ _).mono ?_; rintro e w7 ⟨rfl, hb⟩
  clear c_b_0 c_b_1 l_b
  clear c_c_0 c_c_1 l_c
  have z7 := hb.size; simp at z7
  replace B := below_after (B.alloc (by first | omega | (simp; done) | (simp; omega)) _) hb (by first | omega | (simp; done) | (simp; omega))
  replace K_a := Lib.hid (blk_below (blk_alloc K_a.out _) hb (by first | omega | (simp; done) | (simp; omega)))
  replace K_b := Lib.hid (blk_below (blk_alloc K_b.out _) hb (by first | omega | (simp; done) | (simp; omega)))
  replace K_c := Lib.hid (blk_below (blk_alloc K_c.out _) hb (by first | omega | (simp; done) | (simp; omega)))
  have K_x := blk_below (blk_new _ _) hb (by first | omega | (simp; done) | (simp; omega))
  replace K_x := Lib.hid K_x
  clear hb
  have l_a : w.heap.size < w7.heap.size := by omega
  have c_a_0 := blk_cell K_a.out 0; simp at c_a_0
  have c_a_1 := blk_cell K_a.out 1; simp at c_a_1
  have l_c : w.heap.size + 1 + 1 < w7.heap.size := by omega
  have c_c_0 := blk_cell K_c.out 0; simp at c_c_0
  have c_c_1 := blk_cell K_c.out 1; simp at c_c_1
  go_wp2_with fail
  refine (mul_any _ _ _ _ _).mono ?_; rintro e w8 ⟨rfl, hb⟩
  clear c_a_0 c_a_1 l_a
  clear c_c_0 c_c_1 l_c
  have z8 := hb.size; simp at z8
  replace B := below_after (B.alloc (by first | omega | (simp; done) | (simp; omega)) _) hb (by first | omega | (simp; done) | (simp; omega))
  replace K_a := Lib.hid (blk_below (blk_alloc K_a.out _) hb (by first | omega | (simp; done) | (simp; omega)))
  replace K_b := Lib.hid (blk_below (blk_alloc K_b.out _) hb (by first | omega | (simp; done) | (simp; omega)))
  replace K_c := Lib.hid (blk_below (blk_alloc K_c.out _) hb (by first | omega | (simp; done) | (simp; omega)))
  replace K_x := Lib.hid (blk_below (blk_alloc K_x.out _) hb (by first | omega | (simp; done) | (simp; omega)))
  have K_y := blk_below (blk_new _ _) hb (by first | omega | (simp; done) | (simp; omega))
  replace K_y := Lib.hid K_y
  clear hb
  have l_b : w.heap.size + 1 < w8.heap.size := by omega
  have c_b_0 := blk_cell K_b.out 0; simp at c_b_0
  have c_b_1 := blk_cell K_b.out 1; simp at c_b_1
  have l_c : w.heap.size + 1 + 1 < w8.heap.size := by omega
  have c_c_0 := blk_cell K_c.out 0; simp at c_c_0
  have c_c_1 := blk_cell K_c.out 1; simp at c_c_1
  go_wp2_with fail
  refine (mul_any _ _ _ _ _).mono ?_; rintro e w9 ⟨rfl, hb⟩
  clear c_b_0 c_b_1 l_b
  clear c_c_0 c_c_1 l_c
  have z9 := hb.size; simp at z9
  replace B := below_after (B.alloc (by first | omega | (simp; done) | (simp; omega)) _) hb (by first | omega | (simp; done) | (simp; omega))
  replace K_a := Lib.hid (blk_below (blk_alloc K_a.out _) hb (by first | omega | (simp; done) | (simp; omega)))
  replace K_b := Lib.hid (blk_below (blk_alloc K_b.out _) hb (by first | omega | (simp; done) | (simp; omega)))
  replace K_c := Lib.hid (blk_below (blk_alloc K_c.out _) hb (by first | omega | (simp; done) | (simp; omega)))
  replace K_x := Lib.hid (blk_below (blk_alloc K_x.out _) hb (by first | omega | (simp; done) | (simp; omega)))
  replace K_y := Lib.hid (blk_below (blk_alloc K_y.out _) hb (by first | omega | (simp; done) | (simp; omega)))
  have K_p := blk_below (blk_new _ _) hb (by first | omega | (simp; done) | (simp; omega))
  replace K_p := Lib.hid K_p
  clear hb
  go_wp2
  go_ret
  exact ⟨by simp, B.alloc (by first | omega | (simp; done) | (simp; omega)) _⟩

set_option maxRecDepth 100000 in
set_option maxHeartbeats 4000000 in
theorem rationalOrder_eq_tt_fnn (an ad cn cd : Int) (va : Valid an ad) (vc : Valid cn cd) (hab : lessV an ad an ad = false) (hi : addE an ad cn cd = 0) (hj : addE an ad cn cd = 0) (hmi : mulE an ad cn cd ≠ 0) (w : World) :
    Calls Try.prog 8 #[.agg #[.int .i64 an, .int .i64 ad], .agg #[.int .i64 an, .int .i64 ad], .agg #[.int .i64 cn, .int .i64 cd]] w fun e w' => e = .returned (.bool true) ∧ Below w.heap.size w w' := by
  have e1 : lessE an ad an ad = 0 := if_pos ⟨va, va⟩
  have e2 : lessE an ad an ad = 0 := if_pos ⟨va, va⟩
  have e3 : lessE an ad cn cd = 0 := if_pos ⟨va, vc⟩
  have e4 : lessE an ad cn cd = 0 := if_pos ⟨va, vc⟩
  have ti : (addE an ad cn cd == 0) = true := by simpa using hi
  have ui : (addE an ad cn cd != 0) = false := by simpa using hi
  have tj : (addE an ad cn cd == 0) = true := by simpa using hj
  have uj : (addE an ad cn cd != 0) = false := by simpa using hj
  have tmi : (mulE an ad cn cd == 0) = false := by simpa using hmi
  have umi : (mulE an ad cn cd != 0) = true := by simpa using hmi
  obtain ⟨s1, s2⟩ := less_add va va vc hi hj
  rw [hab] at s1
  clear va vc hi hj hmi
  have B := Below.refl w.heap.size w
  go_enter Try.func8, Try.ntmps8
  go_wp2_with fail
  refine (sane_any _).mono ?_; rintro e w1 ⟨rfl, hb⟩
  have z1 := hb.size; simp at z1
  replace B := below_after (((B.alloc (by first | omega | (simp; done) | (simp; omega)) _).alloc (by first | omega | (simp; done) | (simp; omega)) _).alloc (by first | omega | (simp; done) | (simp; omega)) _) hb (by first | omega | (simp; done) | (simp; omega))
  have K_a := blk_below (blk_alloc (blk_alloc (blk_new _ _) _) _) hb (by first | omega | (simp; done) | (simp; omega))
  replace K_a := Lib.hid K_a
  have K_b := blk_below (blk_alloc (blk_new _ _) _) hb (by first | omega | (simp; done) | (simp; omega))
  rw [World.size_alloc] at K_b
  replace K_b := Lib.hid K_b
  have K_c := blk_below (blk_new _ _) hb (by first | omega | (simp; done) | (simp; omega))
  rw [World.size_alloc, World.size_alloc] at K_c
  replace K_c := Lib.hid K_c
  clear hb
  have c_a_0 := blk_cell K_a.out 0; simp at c_a_0
  have c_a_1 := blk_cell K_a.out 1; simp at c_a_1
  have c_b_0 := blk_cell K_b.out 0; simp at c_b_0
  have c_b_1 := blk_cell K_b.out 1; simp at c_b_1
  go_wp2_with fail
  refine (less_any _ _ _ _ _).mono ?_; rintro e w2 ⟨rfl, hb⟩
  rw [e1]
  clear c_a_0 c_a_1
  clear c_b_0 c_b_1
  have z2 := hb.size
  replace B := below_after B hb (by first | omega | (simp; done) | (simp; omega))
  replace K_a := Lib.hid (blk_below K_a.out hb (by first | omega | (simp; done) | (simp; omega)))
  replace K_b := Lib.hid (blk_below K_b.out hb (by first | omega | (simp; done) | (simp; omega)))
  replace K_c := Lib.hid (blk_below K_c.out hb (by first | omega | (simp; done) | (simp; omega)))
  clear hb
  have c_b_0 := blk_cell K_b.out 0; simp at c_b_0
  have c_b_1 := blk_cell K_b.out 1; simp at c_b_1
  have c_a_0 := blk_cell K_a.out 0; simp at c_a_0
  have c_a_1 := blk_cell K_a.out 1; simp at c_a_1
  go_wp2_with fail
  refine (less_any _ _ _ _ _).mono ?_; rintro e w3 ⟨rfl, hb⟩
  rw [e2]
  clear c_b_0 c_b_1
  clear c_a_0 c_a_1
  have z3 := hb.size
  replace B := below_after B hb (by first | omega | (simp; done) | (simp; omega))
  replace K_a := Lib.hid (blk_below K_a.out hb (by first | omega | (simp; done) | (simp; omega)))
  replace K_b := Lib.hid (blk_below K_b.out hb (by first | omega | (simp; done) | (simp; omega)))
  replace K_c := Lib.hid (blk_below K_c.out hb (by first | omega | (simp; done) | (simp; omega)))
  clear hb
  have c_b_0 := blk_cell K_b.out 0; simp at c_b_0
  have c_b_1 := blk_cell K_b.out 1; simp at c_b_1
  have c_c_0 := blk_cell K_c.out 0; simp at c_c_0
  have c_c_1 := blk_cell K_c.out 1; simp at c_c_1
  go_wp2_with fail
  refine (less_any _ _ _ _ _).mono ?_; rintro e w4 ⟨rfl, hb⟩
  rw [e3]
  clear c_b_0 c_b_1
  clear c_c_0 c_c_1
  have z4 := hb.size
  replace B := below_after B hb (by first | omega | (simp; done) | (simp; omega))
  replace K_a := Lib.hid (blk_below K_a.out hb (by first | omega | (simp; done) | (simp; omega)))
  replace K_b := Lib.hid (blk_below K_b.out hb (by first | omega | (simp; done) | (simp; omega)))
  replace K_c := Lib.hid (blk_below K_c.out hb (by first | omega | (simp; done) | (simp; omega)))
  clear hb
  have c_a_0 := blk_cell K_a.out 0; simp at c_a_0
  have c_a_1 := blk_cell K_a.out 1; simp at c_a_1
  have c_c_0 := blk_cell K_c.out 0; simp at c_c_0
  have c_c_1 := blk_cell K_c.out 1; simp at c_c_1
  go_wp2_with fail
  refine (less_any _ _ _ _ _).mono ?_; rintro e w5 ⟨rfl, hb⟩
  rw [e4]
  clear c_a_0 c_a_1
  clear c_c_0 c_c_1
  have z5 := hb.size
  replace B := below_after B hb (by first | omega | (simp; done) | (simp; omega))
  replace K_a := Lib.hid (blk_below K_a.out hb (by first | omega | (simp; done) | (simp; omega)))
  replace K_b := Lib.hid (blk_below K_b.out hb (by first | omega | (simp; done) | (simp; omega)))
  replace K_c := Lib.hid (blk_below K_c.out hb (by first | omega | (simp; done) | (simp; omega)))
  clear hb
  have c_a_0 := blk_cell K_a.out 0; simp at c_a_0
  have c_a_1 := blk_cell K_a.out 1; simp at c_a_1
  have c_b_0 := blk_cell K_b.out 0; simp at c_b_0
  have c_b_1 := blk_cell K_b.out 1; simp at c_b_1
  have c_c_0 := blk_cell K_c.out 0; simp at c_c_0
  have c_c_1 := blk_cell K_c.out 1; simp at c_c_1
  go_wp2_with fail
  refine (add_any _ _ _ _ _).mono ?_; rintro e w6 ⟨rfl, hb⟩
  clear c_c_0 c_c_1
  have z6 := hb.size
  replace B := below_after B hb (by first | omega | (simp; done) | (simp; omega))
  replace K_a := Lib.hid (blk_below K_a.out hb (by first | omega | (simp; done) | (simp; omega)))
  replace K_b := Lib.hid (blk_below K_b.out hb (by first | omega | (simp; done) | (simp; omega)))
  replace K_c := Lib.hid (blk_below K_c.out hb (by first | omega | (simp; done) | (simp; omega)))
  clear hb
  clear c_a_0 c_a_1 c_b_0 c_b_1
  have l_b : w.heap.size + 1 < w6.heap.size := by omega
  have c_b_0 := blk_cell K_b.out 0; simp at c_b_0
  have c_b_1 := blk_cell K_b.out 1; simp at c_b_1
  have l_c : w.heap.size + 1 + 1 < w6.heap.size := by omega
  have c_c_0 := blk_cell K_c.out 0; simp at c_c_0
  have c_c_1 := blk_cell K_c.out 1; simp at c_c_1
  go_wp2_with fail
  refine (add_any _ _ _ _ _).mono ?_; rintro e w7 ⟨rfl, hb⟩
  clear c_b_0 c_b_1 l_b
  clear c_c_0 c_c_1 l_c
  have z7 := hb.size; simp at z7
  replace B := below_after (B.alloc (by first | omega | (simp; done) | (simp; omega)) _) hb (by first | omega | (simp; done) | (simp; omega))
  replace K_a := Lib.hid (blk_below (blk_alloc K_a.out _) hb (by first | omega | (simp; done) | (simp; omega)))
  replace K_b := Lib.hid (blk_below (blk_alloc K_b.out _) hb (by first | omega | (simp; done) | (simp; omega)))
  replace K_c := Lib.hid (blk_below (blk_alloc K_c.out _) hb (by first | omega | (simp; done) | (simp; omega)))
  have K_x := blk_below (blk_new _ _) hb (by first | omega | (simp; done) | (simp; omega))
  replace K_x := Lib.hid K_x
  clear hb
  have l_x : w6.heap.size < w7.heap.size := by omega
  have c_x_0 := blk_cell K_x.out 0; simp at c_x_0
  have c_x_1 := blk_cell K_x.out 1; simp at c_x_1
  go_wp2_with fail
  refine (less_any _ _ _ _ _).mono ?_; rintro e w8 ⟨rfl, hb⟩
  rw [s1, s2]
  clear c_x_0 c_x_1 l_x
  have z8 := hb.size; simp at z8
  replace B := below_after (B.alloc (by first | omega | (simp; done) | (simp; omega)) _) hb (by first | omega | (simp; done) | (simp; omega))
  replace K_a := Lib.hid (blk_below (blk_alloc K_a.out _) hb (by first | omega | (simp; done) | (simp; omega)))
  replace K_b := Lib.hid (blk_below (blk_alloc K_b.out _) hb (by first | omega | (simp; done) | (simp; omega)))
  replace K_c := Lib.hid (blk_below (blk_alloc K_c.out _) hb (by first | omega | (simp; done) | (simp; omega)))
  replace K_x := Lib.hid (blk_below (blk_alloc K_x.out _) hb (by first | omega | (simp; done) | (simp; omega)))
  have K_y := blk_below (blk_new _ _) hb (by first | omega | (simp; done) | (simp; omega))
  replace K_y := Lib.hid K_y
  clear hb
  have c_a_0 := blk_cell K_a.out 0; simp at c_a_0
  have c_a_1 := blk_cell K_a.out 1; simp at c_a_1
  have c_c_0 := blk_cell K_c.out 0; simp at c_c_0
  have c_c_1 := blk_cell K_c.out 1; simp at c_c_1
  go_wp2_with fail
  refine (mul_any _ _ _ _ _).mono ?_; rintro e w9 ⟨rfl, hb⟩
  clear c_a_0 c_a_1
  clear c_c_0 c_c_1
  have z9 := hb.size
  replace B := below_after B hb (by first | omega | (simp; done) | (simp; omega))
  replace K_a := Lib.hid (blk_below K_a.out hb (by first | omega | (simp; done) | (simp; omega)))
  replace K_b := Lib.hid (blk_below K_b.out hb (by first | omega | (simp; done) | (simp; omega)))
  replace K_c := Lib.hid (blk_below K_c.out hb (by first | omega | (simp; done) | (simp; omega)))
  replace K_x := Lib.hid (blk_below K_x.out hb (by first | omega | (simp; done) | (simp; omega)))
  replace K_y := Lib.hid (blk_below K_y.out hb (by first | omega | (simp; done) | (simp; omega)))
  clear hb
  have l_b : w.heap.size + 1 < w9.heap.size := by omega
  have c_b_0 := blk_cell K_b.out 0; simp at c_b_0
  have c_b_1 := blk_cell K_b.out 1; simp at c_b_1
  have l_c : w.heap.size + 1 + 1 < w9.heap.size := by omega
  have c_c_0 := blk_cell K_c.out 0; simp at c_c_0
  have c_c_1 := blk_cell K_c.out 1; simp at c_c_1
  go_wp2_with fail
  refine (mul_any _ _ _ _ _).mono ?_; rintro e w10 ⟨rfl, hb⟩
  clear c_b_0 c_b_1 l_b
  clear c_c_0 c_c_1 l_c
  have z10 := hb.size; simp at z10
  replace B := below_after (B.alloc (by first | omega | (simp; done) | (simp; omega)) _) hb (by first | omega | (simp; done) | (simp; omega))
  replace K_a := Lib.hid (blk_below (blk_alloc K_a.out _) hb (by first | omega | (simp; done) | (simp; omega)))
  replace K_b := Lib.hid (blk_below (blk_alloc K_b.out _) hb (by first | omega | (simp; done) | (simp; omega)))
  replace K_c := Lib.hid (blk_below (blk_alloc K_c.out _) hb (by first | omega | (simp; done) | (simp; omega)))
  replace K_x := Lib.hid (blk_below (blk_alloc K_x.out _) hb (by first | omega | (simp; done) | (simp; omega)))
  replace K_y := Lib.hid (blk_below (blk_alloc K_y.out _) hb (by first | omega | (simp; done) | (simp; omega)))
  have K_p := blk_below (blk_new _ _) hb (by first | omega | (simp; done) | (simp; omega))
  replace K_p := Lib.hid K_p
  clear hb
  go_wp2
  go_ret
  exact ⟨by simp, B.alloc (by first | omega | (simp; done) | (simp; omega)) _⟩
end Go.Proofs.Ytaaoekddhgjckaa
