/- The walks of RationalField (layer 7). -/
import Derived.Test.YtaaoekddhgjckaaRatSane
import Derived.Test.YtaaoekddhgjckaaRatLawMath
namespace Go.Proofs.Ytaaoekddhgjckaa
open Go.ChangeShapes Go.WideShapes Go.ChangeAt Go.RowKit

set_option maxRecDepth 100000 in
set_option maxHeartbeats 4000000 in
theorem rationalField_ttttt (an ad bn bd cn cd : Int) (he : addE an ad bn bd = 0) (hi : addE bn bd cn cd = 0) (hg : mulE an ad bn bd = 0) (hj : mulE bn bd cn cd = 0) (hk : mulE an ad cn cd = 0) (w : World) :
    Calls Try.prog 5 #[.agg #[.int .i64 an, .int .i64 ad], .agg #[.int .i64 bn, .int .i64 bd], .agg #[.int .i64 cn, .int .i64 cd]] w fun e w' => e = .returned (.bool true) ∧ Below w.heap.size w w' := by
  have te : (addE an ad bn bd == 0) = true := by simpa using he
  have ue : (addE an ad bn bd != 0) = false := by simpa using he
  have HE := Lib.hid he; clear he
  have ti : (addE bn bd cn cd == 0) = true := by simpa using hi
  have ui : (addE bn bd cn cd != 0) = false := by simpa using hi
  have HI := Lib.hid hi; clear hi
  have tg : (mulE an ad bn bd == 0) = true := by simpa using hg
  have ug : (mulE an ad bn bd != 0) = false := by simpa using hg
  have HG := Lib.hid hg; clear hg
  have tj : (mulE bn bd cn cd == 0) = true := by simpa using hj
  have uj : (mulE bn bd cn cd != 0) = false := by simpa using hj
  have HJ := Lib.hid hj; clear hj
  have tk : (mulE an ad cn cd == 0) = true := by simpa using hk
  have uk : (mulE an ad cn cd != 0) = false := by simpa using hk
  have HK := Lib.hid hk; clear hk
  have B := Below.refl w.heap.size w
  go_enter Try.func5, Try.ntmps5
  go_wp2_with fail
  refine (sane_any _).mono ?_; rintro e w1 ⟨rfl, hb⟩
  have z1 := hb.size; simp at z1
  replace B := below_after (((B.alloc (by first | omega | (simp; done) | (simp; omega)) _).alloc (by first | omega | (simp; done) | (simp; omega)) _).alloc (by first | omega | (simp; done) | (simp; omega)) _) hb (by first | omega | (simp; done) | (simp; omega))
  have K_a := blk_below (blk_alloc (blk_alloc (blk_new _ _) _) _) hb (by first | omega | (simp; done) | (simp; omega))
  replace K_a := Lib.hid K_a
  have K_b := blk_below (blk_alloc (blk_new _ _) _) hb (by first | omega | (simp; done) | (simp; omega))
  rw [World.size_alloc] at K_b
  replace K_b := Lib.hid K_b
  have K_c := blk_below (blk_new _ _) hb (by first | omega | (simp; done) | (simp; omega))
  rw [World.size_alloc, World.size_alloc] at K_c
  replace K_c := Lib.hid K_c
  clear hb
  have c_a_0 := blk_cell K_a.out 0; simp at c_a_0
  have c_a_1 := blk_cell K_a.out 1; simp at c_a_1
  have c_b_0 := blk_cell K_b.out 0; simp at c_b_0
  have c_b_1 := blk_cell K_b.out 1; simp at c_b_1
  go_wp2_with fail
  refine (add_any _ _ _ _ _).mono ?_; rintro e w2 ⟨rfl, hb⟩
  clear c_a_0 c_a_1
  clear c_b_0 c_b_1
  have z2 := hb.size
  replace B := below_after B hb (by first | omega | (simp; done) | (simp; omega))
  replace K_a := Lib.hid (blk_below K_a.out hb (by first | omega | (simp; done) | (simp; omega)))
  replace K_b := Lib.hid (blk_below K_b.out hb (by first | omega | (simp; done) | (simp; omega)))
  replace K_c := Lib.hid (blk_below K_c.out hb (by first | omega | (simp; done) | (simp; omega)))
  clear hb
  have l_a : w.heap.size < w2.heap.size := by omega
  have c_a_0 := blk_cell K_a.out 0; simp at c_a_0
  have c_a_1 := blk_cell K_a.out 1; simp at c_a_1
  have l_b : w.heap.size + 1 < w2.heap.size := by omega
  have c_b_0 := blk_cell K_b.out 0; simp at c_b_0
  have c_b_1 := blk_cell K_b.out 1; simp at c_b_1
  go_wp2_with fail
  refine (add_any _ _ _ _ _).mono ?_; rintro e w3 ⟨rfl, hb⟩
  rw [(addN_comm an ad bn bd).1, (addN_comm an ad bn bd).2.1, (addN_comm an ad bn bd).2.2]
  clear c_a_0 c_a_1 l_a
  clear c_b_0 c_b_1 l_b
  have z3 := hb.size; simp at z3
  replace B := below_after (B.alloc (by first | omega | (simp; done) | (simp; omega)) _) hb (by first | omega | (simp; done) | (simp; omega))
  replace K_a := Lib.hid (blk_below (blk_alloc K_a.out _) hb (by first | omega | (simp; done) | (simp; omega)))
  replace K_b := Lib.hid (blk_below (blk_alloc K_b.out _) hb (by first | omega | (simp; done) | (simp; omega)))
  replace K_c := Lib.hid (blk_below (blk_alloc K_c.out _) hb (by first | omega | (simp; done) | (simp; omega)))
  have K_ab := blk_below (blk_new _ _) hb (by first | omega | (simp; done) | (simp; omega))
  replace K_ab := Lib.hid K_ab
  clear hb
  have l_a : w.heap.size < w3.heap.size := by omega
  have c_a_0 := blk_cell K_a.out 0; simp at c_a_0
  have c_a_1 := blk_cell K_a.out 1; simp at c_a_1
  have l_b : w.heap.size + 1 < w3.heap.size := by omega
  have c_b_0 := blk_cell K_b.out 0; simp at c_b_0
  have c_b_1 := blk_cell K_b.out 1; simp at c_b_1
  go_wp2_with fail
  refine (mul_any _ _ _ _ _).mono ?_; rintro e w4 ⟨rfl, hb⟩
  clear c_a_0 c_a_1 l_a
  clear c_b_0 c_b_1 l_b
  have z4 := hb.size; simp at z4
  replace B := below_after (B.alloc (by first | omega | (simp; done) | (simp; omega)) _) hb (by first | omega | (simp; done) | (simp; omega))
  replace K_a := Lib.hid (blk_below (blk_alloc K_a.out _) hb (by first | omega | (simp; done) | (simp; omega)))
  replace K_b := Lib.hid (blk_below (blk_alloc K_b.out _) hb (by first | omega | (simp; done) | (simp; omega)))
  replace K_c := Lib.hid (blk_below (blk_alloc K_c.out _) hb (by first | omega | (simp; done) | (simp; omega)))
  replace K_ab := Lib.hid (blk_below (blk_alloc K_ab.out _) hb (by first | omega | (simp; done) | (simp; omega)))
  have K_ba := blk_below (blk_new _ _) hb (by first | omega | (simp; done) | (simp; omega))
  replace K_ba := Lib.hid K_ba
  clear hb
  have l_a : w.heap.size < w4.heap.size := by omega
  have c_a_0 := blk_cell K_a.out 0; simp at c_a_0
  have c_a_1 := blk_cell K_a.out 1; simp at c_a_1
  have l_b : w.heap.size + 1 < w4.heap.size := by omega
  have c_b_0 := blk_cell K_b.out 0; simp at c_b_0
  have c_b_1 := blk_cell K_b.out 1; simp at c_b_1
  go_wp2_with fail
  refine (mul_any _ _ _ _ _).mono ?_; rintro e w5 ⟨rfl, hb⟩
  rw [(mulN_comm an ad bn bd).1, (mulN_comm an ad bn bd).2.1, (mulN_comm an ad bn bd).2.2]
  clear c_a_0 c_a_1 l_a
  clear c_b_0 c_b_1 l_b
  have z5 := hb.size; simp at z5
  replace B := below_after (B.alloc (by first | omega | (simp; done) | (simp; omega)) _) hb (by first | omega | (simp; done) | (simp; omega))
  replace K_a := Lib.hid (blk_below (blk_alloc K_a.out _) hb (by first | omega | (simp; done) | (simp; omega)))
  replace K_b := Lib.hid (blk_below (blk_alloc K_b.out _) hb (by first | omega | (simp; done) | (simp; omega)))
  replace K_c := Lib.hid (blk_below (blk_alloc K_c.out _) hb (by first | omega | (simp; done) | (simp; omega)))
  replace K_ab := Lib.hid (blk_below (blk_alloc K_ab.out _) hb (by first | omega | (simp; done) | (simp; omega)))
  replace K_ba := Lib.hid (blk_below (blk_alloc K_ba.out _) hb (by first | omega | (simp; done) | (simp; omega)))
  have K_p := blk_below (blk_new _ _) hb (by first | omega | (simp; done) | (simp; omega))
  replace K_p := Lib.hid K_p
  clear hb
  have l_ab : w2.heap.size < w5.heap.size := by omega
  have c_ab_0 := blk_cell K_ab.out 0; simp at c_ab_0
  have c_ab_1 := blk_cell K_ab.out 1; simp at c_ab_1
  have l_ba : w3.heap.size < w5.heap.size := by omega
  have c_ba_0 := blk_cell K_ba.out 0; simp at c_ba_0
  have c_ba_1 := blk_cell K_ba.out 1; simp at c_ba_1
  have l_p : w4.heap.size < w5.heap.size := by omega
  have c_p_0 := blk_cell K_p.out 0; simp at c_p_0
  have c_p_1 := blk_cell K_p.out 1; simp at c_p_1
  have l_b : w.heap.size + 1 < w5.heap.size := by omega
  have c_b_0 := blk_cell K_b.out 0; simp at c_b_0
  have c_b_1 := blk_cell K_b.out 1; simp at c_b_1
  have l_c : w.heap.size + 1 + 1 < w5.heap.size := by omega
  have c_c_0 := blk_cell K_c.out 0; simp at c_c_0
  have c_c_1 := blk_cell K_c.out 1; simp at c_c_1
  go_wp2_with fail
  refine (add_any _ _ _ _ _).mono ?_; rintro e w6 ⟨rfl, hb⟩
  clear c_b_0 c_b_1 l_b
  clear c_c_0 c_c_1 l_c
  have z6 := hb.size; simp at z6
  replace B := below_after (B.alloc (by first | omega | (simp; done) | (simp; omega)) _) hb (by first | omega | (simp; done) | (simp; omega))
  replace K_a := Lib.hid (blk_below (blk_alloc K_a.out _) hb (by first | omega | (simp; done) | (simp; omega)))
  replace K_b := Lib.hid (blk_below (blk_alloc K_b.out _) hb (by first | omega | (simp; done) | (simp; omega)))
  replace K_c := Lib.hid (blk_below (blk_alloc K_c.out _) hb (by first | omega | (simp; done) | (simp; omega)))
  replace K_ab := Lib.hid (blk_below (blk_alloc K_ab.out _) hb (by first | omega | (simp; done) | (simp; omega)))
  replace K_ba := Lib.hid (blk_below (blk_alloc K_ba.out _) hb (by first | omega | (simp; done) | (simp; omega)))
  replace K_p := Lib.hid (blk_below (blk_alloc K_p.out _) hb (by first | omega | (simp; done) | (simp; omega)))
  have K_q := blk_below (blk_new _ _) hb (by first | omega | (simp; done) | (simp; omega))
  replace K_q := Lib.hid K_q
  clear hb
  clear c_ab_0 c_ab_1 c_ba_0 c_ba_1 c_p_0 c_p_1 l_ab l_ba l_p
  have l_b : w.heap.size + 1 < w6.heap.size := by omega
  have c_b_0 := blk_cell K_b.out 0; simp at c_b_0
  have c_b_1 := blk_cell K_b.out 1; simp at c_b_1
  have l_c : w.heap.size + 1 + 1 < w6.heap.size := by omega
  have c_c_0 := blk_cell K_c.out 0; simp at c_c_0
  have c_c_1 := blk_cell K_c.out 1; simp at c_c_1
  go_wp2_with fail
  refine (mul_any _ _ _ _ _).mono ?_; rintro e w7 ⟨rfl, hb⟩
  clear c_b_0 c_b_1 l_b
  clear c_c_0 c_c_1 l_c
  have z7 := hb.size; simp at z7
  replace B := below_after (B.alloc (by first | omega | (simp; done) | (simp; omega)) _) hb (by first | omega | (simp; done) | (simp; omega))
  replace K_a := Lib.hid (blk_below (blk_alloc K_a.out _) hb (by first | omega | (simp; done) | (simp; omega)))
  replace K_b := Lib.hid (blk_below (blk_alloc K_b.out _) hb (by first | omega | (simp; done) | (simp; omega)))
  replace K_c := Lib.hid (blk_below (blk_alloc K_c.out _) hb (by first | omega | (simp; done) | (simp; omega)))
  replace K_ab := Lib.hid (blk_below (blk_alloc K_ab.out _) hb (by first | omega | (simp; done) | (simp; omega)))
  replace K_ba := Lib.hid (blk_below (blk_alloc K_ba.out _) hb (by first | omega | (simp; done) | (simp; omega)))
  replace K_p := Lib.hid (blk_below (blk_alloc K_p.out _) hb (by first | omega | (simp; done) | (simp; omega)))
  replace K_q := Lib.hid (blk_below (blk_alloc K_q.out _) hb (by first | omega | (simp; done) | (simp; omega)))
  have K_bc := blk_below (blk_new _ _) hb (by first | omega | (simp; done) | (simp; omega))
  replace K_bc := Lib.hid K_bc
  clear hb
  have l_a : w.heap.size < w7.heap.size := by omega
  have c_a_0 := blk_cell K_a.out 0; simp at c_a_0
  have c_a_1 := blk_cell K_a.out 1; simp at c_a_1
  have l_c : w.heap.size + 1 + 1 < w7.heap.size := by omega
  have c_c_0 := blk_cell K_c.out 0; simp at c_c_0
  have c_c_1 := blk_cell K_c.out 1; simp at c_c_1
  go_wp2_with fail
  refine (mul_any _ _ _ _ _).mono ?_; rintro e w8 ⟨rfl, hb⟩
  clear c_a_0 c_a_1 l_a
  clear c_c_0 c_c_1 l_c
  have z8 := hb.size; simp at z8
  replace B := below_after (B.alloc (by first | omega | (simp; done) | (simp; omega)) _) hb (by first | omega | (simp; done) | (simp; omega))
  replace K_a := Lib.hid (blk_below (blk_alloc K_a.out _) hb (by first | omega | (simp; done) | (simp; omega)))
  replace K_b := Lib.hid (blk_below (blk_alloc K_b.out _) hb (by first | omega | (simp; done) | (simp; omega)))
  replace K_c := Lib.hid (blk_below (blk_alloc K_c.out _) hb (by first | omega | (simp; done) | (simp; omega)))
  replace K_ab := Lib.hid (blk_below (blk_alloc K_ab.out _) hb (by first | omega | (simp; done) | (simp; omega)))
  replace K_ba := Lib.hid (blk_below (blk_alloc K_ba.out _) hb (by first | omega | (simp; done) | (simp; omega)))
  replace K_p := Lib.hid (blk_below (blk_alloc K_p.out _) hb (by first | omega | (simp; done) | (simp; omega)))
  replace K_q := Lib.hid (blk_below (blk_alloc K_q.out _) hb (by first | omega | (simp; done) | (simp; omega)))
  replace K_bc := Lib.hid (blk_below (blk_alloc K_bc.out _) hb (by first | omega | (simp; done) | (simp; omega)))
  have K_r := blk_below (blk_new _ _) hb (by first | omega | (simp; done) | (simp; omega))
  replace K_r := Lib.hid K_r
  clear hb
  have l_ab : w2.heap.size < w8.heap.size := by omega
  have c_ab_0 := blk_cell K_ab.out 0; simp at c_ab_0
  have c_ab_1 := blk_cell K_ab.out 1; simp at c_ab_1
  have l_c : w.heap.size + 1 + 1 < w8.heap.size := by omega
  have c_c_0 := blk_cell K_c.out 0; simp at c_c_0
  have c_c_1 := blk_cell K_c.out 1; simp at c_c_1
  go_wp2_with fail
  refine (add_any _ _ _ _ _).mono ?_; rintro e w9 ⟨rfl, hb⟩
  clear c_ab_0 c_ab_1 l_ab
  clear c_c_0 c_c_1 l_c
  have z9 := hb.size; simp at z9
  replace B := below_after (B.alloc (by first | omega | (simp; done) | (simp; omega)) _) hb (by first | omega | (simp; done) | (simp; omega))
  replace K_a := Lib.hid (blk_below (blk_alloc K_a.out _) hb (by first | omega | (simp; done) | (simp; omega)))
  replace K_b := Lib.hid (blk_below (blk_alloc K_b.out _) hb (by first | omega | (simp; done) | (simp; omega)))
  replace K_c := Lib.hid (blk_below (blk_alloc K_c.out _) hb (by first | omega | (simp; done) | (simp; omega)))
  replace K_ab := Lib.hid (blk_below (blk_alloc K_ab.out _) hb (by first | omega | (simp; done) | (simp; omega)))
  replace K_ba := Lib.hid (blk_below (blk_alloc K_ba.out _) hb (by first | omega | (simp; done) | (simp; omega)))
  replace K_p := Lib.hid (blk_below (blk_alloc K_p.out _) hb (by first | omega | (simp; done) | (simp; omega)))
  replace K_q := Lib.hid (blk_below (blk_alloc K_q.out _) hb (by first | omega | (simp; done) | (simp; omega)))
  replace K_bc := Lib.hid (blk_below (blk_alloc K_bc.out _) hb (by first | omega | (simp; done) | (simp; omega)))
  replace K_r := Lib.hid (blk_below (blk_alloc K_r.out _) hb (by first | omega | (simp; done) | (simp; omega)))
  have K_ac := blk_below (blk_new _ _) hb (by first | omega | (simp; done) | (simp; omega))
  replace K_ac := Lib.hid K_ac
  clear hb
  have l_a : w.heap.size < w9.heap.size := by omega
  have c_a_0 := blk_cell K_a.out 0; simp at c_a_0
  have c_a_1 := blk_cell K_a.out 1; simp at c_a_1
  have l_bc : w6.heap.size < w9.heap.size := by omega
  have c_bc_0 := blk_cell K_bc.out 0; simp at c_bc_0
  have c_bc_1 := blk_cell K_bc.out 1; simp at c_bc_1
  go_wp2_with fail
  refine (add_any _ _ _ _ _).mono ?_; rintro e w10 ⟨rfl, hb⟩
  rw [(add_assoc HE.out HI.out).1, (add_assoc HE.out HI.out).2.1, (add_assoc HE.out HI.out).2.2]
  clear c_a_0 c_a_1 l_a
  clear c_bc_0 c_bc_1 l_bc
  have z10 := hb.size; simp at z10
  replace B := below_after (B.alloc (by first | omega | (simp; done) | (simp; omega)) _) hb (by first | omega | (simp; done) | (simp; omega))
  replace K_a := Lib.hid (blk_below (blk_alloc K_a.out _) hb (by first | omega | (simp; done) | (simp; omega)))
  replace K_b := Lib.hid (blk_below (blk_alloc K_b.out _) hb (by first | omega | (simp; done) | (simp; omega)))
  replace K_c := Lib.hid (blk_below (blk_alloc K_c.out _) hb (by first | omega | (simp; done) | (simp; omega)))
  replace K_ab := Lib.hid (blk_below (blk_alloc K_ab.out _) hb (by first | omega | (simp; done) | (simp; omega)))
  replace K_ba := Lib.hid (blk_below (blk_alloc K_ba.out _) hb (by first | omega | (simp; done) | (simp; omega)))
  replace K_p := Lib.hid (blk_below (blk_alloc K_p.out _) hb (by first | omega | (simp; done) | (simp; omega)))
  replace K_q := Lib.hid (blk_below (blk_alloc K_q.out _) hb (by first | omega | (simp; done) | (simp; omega)))
  replace K_bc := Lib.hid (blk_below (blk_alloc K_bc.out _) hb (by first | omega | (simp; done) | (simp; omega)))
  replace K_r := Lib.hid (blk_below (blk_alloc K_r.out _) hb (by first | omega | (simp; done) | (simp; omega)))
  replace K_ac := Lib.hid (blk_below (blk_alloc K_ac.out _) hb (by first | omega | (simp; done) | (simp; omega)))
  have K_x := blk_below (blk_new _ _) hb (by first | omega | (simp; done) | (simp; omega))
  replace K_x := Lib.hid K_x
  clear hb
  have l_x : w9.heap.size < w10.heap.size := by omega
  have c_x_0 := blk_cell K_x.out 0; simp at c_x_0
  have c_x_1 := blk_cell K_x.out 1; simp at c_x_1
  have l_p : w4.heap.size < w10.heap.size := by omega
  have c_p_0 := blk_cell K_p.out 0; simp at c_p_0
  have c_p_1 := blk_cell K_p.out 1; simp at c_p_1
  have l_c : w.heap.size + 1 + 1 < w10.heap.size := by omega
  have c_c_0 := blk_cell K_c.out 0; simp at c_c_0
  have c_c_1 := blk_cell K_c.out 1; simp at c_c_1
  go_wp2_with fail
  refine (mul_any _ _ _ _ _).mono ?_; rintro e w11 ⟨rfl, hb⟩
  clear c_p_0 c_p_1 l_p
  clear c_c_0 c_c_1 l_c
  have z11 := hb.size; simp at z11
  replace B := below_after (B.alloc (by first | omega | (simp; done) | (simp; omega)) _) hb (by first | omega | (simp; done) | (simp; omega))
  replace K_a := Lib.hid (blk_below (blk_alloc K_a.out _) hb (by first | omega | (simp; done) | (simp; omega)))
  replace K_b := Lib.hid (blk_below (blk_alloc K_b.out _) hb (by first | omega | (simp; done) | (simp; omega)))
  replace K_c := Lib.hid (blk_below (blk_alloc K_c.out _) hb (by first | omega | (simp; done) | (simp; omega)))
  replace K_ab := Lib.hid (blk_below (blk_alloc K_ab.out _) hb (by first | omega | (simp; done) | (simp; omega)))
  replace K_ba := Lib.hid (blk_below (blk_alloc K_ba.out _) hb (by first | omega | (simp; done) | (simp; omega)))
  replace K_p := Lib.hid (blk_below (blk_alloc K_p.out _) hb (by first | omega | (simp; done) | (simp; omega)))
  replace K_q := Lib.hid (blk_below (blk_alloc K_q.out _) hb (by first | omega | (simp; done) | (simp; omega)))
  replace K_bc := Lib.hid (blk_below (blk_alloc K_bc.out _) hb (by first | omega | (simp; done) | (simp; omega)))
  replace K_r := Lib.hid (blk_below (blk_alloc K_r.out _) hb (by first | omega | (simp; done) | (simp; omega)))
  replace K_ac := Lib.hid (blk_below (blk_alloc K_ac.out _) hb (by first | omega | (simp; done) | (simp; omega)))
  replace K_x := Lib.hid (blk_below (blk_alloc K_x.out _) hb (by first | omega | (simp; done) | (simp; omega)))
  have K_y := blk_below (blk_new _ _) hb (by first | omega | (simp; done) | (simp; omega))
  replace K_y := Lib.hid K_y
  clear hb
  have l_a : w.heap.size < w11.heap.size := by omega
  have c_a_0 := blk_cell K_a.out 0; simp at c_a_0
  have c_a_1 := blk_cell K_a.out 1; simp at c_a_1
  have l_r : w7.heap.size < w11.heap.size := by omega
  have c_r_0 := blk_cell K_r.out 0; simp at c_r_0
  have c_r_1 := blk_cell K_r.out 1; simp at c_r_1
  go_wp2_with fail
  refine (mul_any _ _ _ _ _).mono ?_; rintro e w12 ⟨rfl, hb⟩
  rw [(mul_assoc' HG.out HJ.out).1, (mul_assoc' HG.out HJ.out).2.1, (mul_assoc' HG.out HJ.out).2.2]
  clear c_a_0 c_a_1 l_a
  clear c_r_0 c_r_1 l_r
  have z12 := hb.size; simp at z12
  replace B := below_after (B.alloc (by first | omega | (simp; done) | (simp; omega)) _) hb (by first | omega | (simp; done) | (simp; omega))
  replace K_a := Lib.hid (blk_below (blk_alloc K_a.out _) hb (by first | omega | (simp; done) | (simp; omega)))
  replace K_b := Lib.hid (blk_below (blk_alloc K_b.out _) hb (by first | omega | (simp; done) | (simp; omega)))
  replace K_c := Lib.hid (blk_below (blk_alloc K_c.out _) hb (by first | omega | (simp; done) | (simp; omega)))
  replace K_ab := Lib.hid (blk_below (blk_alloc K_ab.out _) hb (by first | omega | (simp; done) | (simp; omega)))
  replace K_ba := Lib.hid (blk_below (blk_alloc K_ba.out _) hb (by first | omega | (simp; done) | (simp; omega)))
  replace K_p := Lib.hid (blk_below (blk_alloc K_p.out _) hb (by first | omega | (simp; done) | (simp; omega)))
  replace K_q := Lib.hid (blk_below (blk_alloc K_q.out _) hb (by first | omega | (simp; done) | (simp; omega)))
  replace K_bc := Lib.hid (blk_below (blk_alloc K_bc.out _) hb (by first | omega | (simp; done) | (simp; omega)))
  replace K_r := Lib.hid (blk_below (blk_alloc K_r.out _) hb (by first | omega | (simp; done) | (simp; omega)))
  replace K_ac := Lib.hid (blk_below (blk_alloc K_ac.out _) hb (by first | omega | (simp; done) | (simp; omega)))
  replace K_x := Lib.hid (blk_below (blk_alloc K_x.out _) hb (by first | omega | (simp; done) | (simp; omega)))
  replace K_y := Lib.hid (blk_below (blk_alloc K_y.out _) hb (by first | omega | (simp; done) | (simp; omega)))
  have K_x2 := blk_below (blk_new _ _) hb (by first | omega | (simp; done) | (simp; omega))
  replace K_x2 := Lib.hid K_x2
  clear hb
  have l_x2 : w11.heap.size < w12.heap.size := by omega
  have c_x2_0 := blk_cell K_x2.out 0; simp at c_x2_0
  have c_x2_1 := blk_cell K_x2.out 1; simp at c_x2_1
  have l_a : w.heap.size < w12.heap.size := by omega
  have c_a_0 := blk_cell K_a.out 0; simp at c_a_0
  have c_a_1 := blk_cell K_a.out 1; simp at c_a_1
  have l_bc : w6.heap.size < w12.heap.size := by omega
  have c_bc_0 := blk_cell K_bc.out 0; simp at c_bc_0
  have c_bc_1 := blk_cell K_bc.out 1; simp at c_bc_1
  go_wp2_with fail
  refine (mul_any _ _ _ _ _).mono ?_; rintro e w13 ⟨rfl, hb⟩
  clear c_a_0 c_a_1 l_a
  clear c_bc_0 c_bc_1 l_bc
  have z13 := hb.size; simp at z13
  replace B := below_after (B.alloc (by first | omega | (simp; done) | (simp; omega)) _) hb (by first | omega | (simp; done) | (simp; omega))
  replace K_a := Lib.hid (blk_below (blk_alloc K_a.out _) hb (by first | omega | (simp; done) | (simp; omega)))
  replace K_b := Lib.hid (blk_below (blk_alloc K_b.out _) hb (by first | omega | (simp; done) | (simp; omega)))
  replace K_c := Lib.hid (blk_below (blk_alloc K_c.out _) hb (by first | omega | (simp; done) | (simp; omega)))
  replace K_ab := Lib.hid (blk_below (blk_alloc K_ab.out _) hb (by first | omega | (simp; done) | (simp; omega)))
  replace K_ba := Lib.hid (blk_below (blk_alloc K_ba.out _) hb (by first | omega | (simp; done) | (simp; omega)))
  replace K_p := Lib.hid (blk_below (blk_alloc K_p.out _) hb (by first | omega | (simp; done) | (simp; omega)))
  replace K_q := Lib.hid (blk_below (blk_alloc K_q.out _) hb (by first | omega | (simp; done) | (simp; omega)))
  replace K_bc := Lib.hid (blk_below (blk_alloc K_bc.out _) hb (by first | omega | (simp; done) | (simp; omega)))
  replace K_r := Lib.hid (blk_below (blk_alloc K_r.out _) hb (by first | omega | (simp; done) | (simp; omega)))
  replace K_ac := Lib.hid (blk_below (blk_alloc K_ac.out _) hb (by first | omega | (simp; done) | (simp; omega)))
  replace K_x := Lib.hid (blk_below (blk_alloc K_x.out _) hb (by first | omega | (simp; done) | (simp; omega)))
  replace K_y := Lib.hid (blk_below (blk_alloc K_y.out _) hb (by first | omega | (simp; done) | (simp; omega)))
  replace K_x2 := Lib.hid (blk_below (blk_alloc K_x2.out _) hb (by first | omega | (simp; done) | (simp; omega)))
  have K_y2 := blk_below (blk_new _ _) hb (by first | omega | (simp; done) | (simp; omega))
  replace K_y2 := Lib.hid K_y2
  clear hb
  have l_p : w4.heap.size < w13.heap.size := by omega
  have c_p_0 := blk_cell K_p.out 0; simp at c_p_0
  have c_p_1 := blk_cell K_p.out 1; simp at c_p_1
  have l_ac : w8.heap.size < w13.heap.size := by omega
  have c_ac_0 := blk_cell K_ac.out 0; simp at c_ac_0
  have c_ac_1 := blk_cell K_ac.out 1; simp at c_ac_1
  go_wp2_with fail
  refine (add_any _ _ _ _ _).mono ?_; rintro e w14 ⟨rfl, hb⟩
  rw [(distrib HI.out HG.out HK.out).1, (distrib HI.out HG.out HK.out).2.1, (distrib HI.out HG.out HK.out).2.2]
  clear c_p_0 c_p_1 l_p
  clear c_ac_0 c_ac_1 l_ac
  have z14 := hb.size; simp at z14
  replace B := below_after (B.alloc (by first | omega | (simp; done) | (simp; omega)) _) hb (by first | omega | (simp; done) | (simp; omega))
  replace K_a := Lib.hid (blk_below (blk_alloc K_a.out _) hb (by first | omega | (simp; done) | (simp; omega)))
  replace K_b := Lib.hid (blk_below (blk_alloc K_b.out _) hb (by first | omega | (simp; done) | (simp; omega)))
  replace K_c := Lib.hid (blk_below (blk_alloc K_c.out _) hb (by first | omega | (simp; done) | (simp; omega)))
  replace K_ab := Lib.hid (blk_below (blk_alloc K_ab.out _) hb (by first | omega | (simp; done) | (simp; omega)))
  replace K_ba := Lib.hid (blk_below (blk_alloc K_ba.out _) hb (by first | omega | (simp; done) | (simp; omega)))
  replace K_p := Lib.hid (blk_below (blk_alloc K_p.out _) hb (by first | omega | (simp; done) | (simp; omega)))
  replace K_q := Lib.hid (blk_below (blk_alloc K_q.out _) hb (by first | omega | (simp; done) | (simp; omega)))
  replace K_bc := Lib.hid (blk_below (blk_alloc K_bc.out _) hb (by first | omega | (simp; done) | (simp; omega)))
  replace K_r := Lib.hid (blk_below (blk_alloc K_r.out _) hb (by first | omega | (simp; done) | (simp; omega)))
  replace K_ac := Lib.hid (blk_below (blk_alloc K_ac.out _) hb (by first | omega | (simp; done) | (simp; omega)))
  replace K_x := Lib.hid (blk_below (blk_alloc K_x.out _) hb (by first | omega | (simp; done) | (simp; omega)))
  replace K_y := Lib.hid (blk_below (blk_alloc K_y.out _) hb (by first | omega | (simp; done) | (simp; omega)))
  replace K_x2 := Lib.hid (blk_below (blk_alloc K_x2.out _) hb (by first | omega | (simp; done) | (simp; omega)))
  replace K_y2 := Lib.hid (blk_below (blk_alloc K_y2.out _) hb (by first | omega | (simp; done) | (simp; omega)))
  have K_x3 := blk_below (blk_new _ _) hb (by first | omega | (simp; done) | (simp; omega))
  replace K_x3 := Lib.hid K_x3
  clear hb
  have l_x3 : w13.heap.size < w14.heap.size := by omega
  have c_x3_0 := blk_cell K_x3.out 0; simp at c_x3_0
  have c_x3_1 := blk_cell K_x3.out 1; simp at c_x3_1
  go_wp2
  go_ret
  exact ⟨by simp, B.alloc (by first | omega | (simp; done) | (simp; omega)) _⟩

set_option maxRecDepth 100000 in
set_option maxHeartbeats 4000000 in
theorem rationalField_tttff (an ad bn bd cn cd : Int) (he : addE an ad bn bd = 0) (hi : addE bn bd cn cd = 0) (hg : mulE an ad bn bd = 0) (hj : mulE bn bd cn cd ≠ 0) (hk : mulE an ad cn cd ≠ 0) (w : World) :
    Calls Try.prog 5 #[.agg #[.int .i64 an, .int .i64 ad], .agg #[.int .i64 bn, .int .i64 bd], .agg #[.int .i64 cn, .int .i64 cd]] w fun e w' => e = .returned (.bool true) ∧ Below w.heap.size w w' := by
  have te : (addE an ad bn bd == 0) = true := by simpa using he
  have ue : (addE an ad bn bd != 0) = false := by simpa using he
  have HE := Lib.hid he; clear he
  have ti : (addE bn bd cn cd == 0) = true := by simpa using hi
  have ui : (addE bn bd cn cd != 0) = false := by simpa using hi
  have HI := Lib.hid hi; clear hi
  have tg : (mulE an ad bn bd == 0) = true := by simpa using hg
  have ug : (mulE an ad bn bd != 0) = false := by simpa using hg
  have HG := Lib.hid hg; clear hg
  have tj : (mulE bn bd cn cd == 0) = false := by simpa using hj
  have uj : (mulE bn bd cn cd != 0) = true := by simpa using hj
  have HJ := Lib.hid hj; clear hj
  have tk : (mulE an ad cn cd == 0) = false := by simpa using hk
  have uk : (mulE an ad cn cd != 0) = true := by simpa using hk
  have HK := Lib.hid hk; clear hk
  have B := Below.refl w.heap.size w
  go_enter Try.func5, Try.ntmps5
  go_wp2_with fail
  refine (sane_any _).mono ?_; rintro e w1 ⟨rfl, hb⟩
  have z1 := hb.size; simp at z1
  replace B := below_after (((B.alloc (by first | omega | (simp; done) | (simp; omega)) _).alloc (by first | omega | (simp; done) | (simp; omega)) _).alloc (by first | omega | (simp; done) | (simp; omega)) _) hb (by first | omega | (simp; done) | (simp; omega))
  have K_a := blk_below (blk_alloc (blk_alloc (blk_new _ _) _) _) hb (by first | omega | (simp; done) | (simp; omega))
  replace K_a := Lib.hid K_a
  have K_b := blk_below (blk_alloc (blk_new _ _) _) hb (by first | omega | (simp; done) | (simp; omega))
  rw [World.size_alloc] at K_b
  replace K_b := Lib.hid K_b
  have K_c := blk_below (blk_new _ _) hb (by first | omega | (simp; done) | (simp; omega))
  rw [World.size_alloc, World.size_alloc] at K_c
  replace K_c := Lib.hid K_c
  clear hb
  have c_a_0 := blk_cell K_a.out 0; simp at c_a_0
  have c_a_1 := blk_cell K_a.out 1; simp at c_a_1
  have c_b_0 := blk_cell K_b.out 0; simp at c_b_0
  have c_b_1 := blk_cell K_b.out 1; simp at c_b_1
  go_wp2_with fail
  refine (add_any _ _ _ _ _).mono ?_; rintro e w2 ⟨rfl, hb⟩
  clear c_a_0 c_a_1
  clear c_b_0 c_b_1
  have z2 := hb.size
  replace B := below_after B hb (by first | omega | (simp; done) | (simp; omega))
  replace K_a := Lib.hid (blk_below K_a.out hb (by first | omega | (simp; done) | (simp; omega)))
  replace K_b := Lib.hid (blk_below K_b.out hb (by first | omega | (simp; done) | (simp; omega)))
  replace K_c := Lib.hid (blk_below K_c.out hb (by first | omega | (simp; done) | (simp; omega)))
  clear hb
  have l_a : w.heap.size < w2.heap.size := by omega
  have c_a_0 := blk_cell K_a.out 0; simp at c_a_0
  have c_a_1 := blk_cell K_a.out 1; simp at c_a_1
  have l_b : w.heap.size + 1 < w2.heap.size := by omega
  have c_b_0 := blk_cell K_b.out 0; simp at c_b_0
  have c_b_1 := blk_cell K_b.out 1; simp at c_b_1
  go_wp2_with fail
  refine (add_any _ _ _ _ _).mono ?_; rintro e w3 ⟨rfl, hb⟩
  rw [(addN_comm an ad bn bd).1, (addN_comm an ad bn bd).2.1, (addN_comm an ad bn bd).2.2]
  clear c_a_0 c_a_1 l_a
  clear c_b_0 c_b_1 l_b
  have z3 := hb.size; simp at z3
  replace B := below_after (B.alloc (by first | omega | (simp; done) | (simp; omega)) _) hb (by first | omega | (simp; done) | (simp; omega))
  replace K_a := Lib.hid (blk_below (blk_alloc K_a.out _) hb (by first | omega | (simp; done) | (simp; omega)))
  replace K_b := Lib.hid (blk_below (blk_alloc K_b.out _) hb (by first | omega | (simp; done) | (simp; omega)))
  replace K_c := Lib.hid (blk_below (blk_alloc K_c.out _) hb (by first | omega | (simp; done) | (simp; omega)))
  have K_ab := blk_below (blk_new _ _) hb (by first | omega | (simp; done) | (simp; omega))
  replace K_ab := Lib.hid K_ab
  clear hb
  have l_a : w.heap.size < w3.heap.size := by omega
  have c_a_0 := blk_cell K_a.out 0; simp at c_a_0
  have c_a_1 := blk_cell K_a.out 1; simp at c_a_1
  have l_b : w.heap.size + 1 < w3.heap.size := by omega
  have c_b_0 := blk_cell K_b.out 0; simp at c_b_0
  have c_b_1 := blk_cell K_b.out 1; simp at c_b_1
  go_wp2_with fail
  refine (mul_any _ _ _ _ _).mono ?_; rintro e w4 ⟨rfl, hb⟩
  clear c_a_0 c_a_1 l_a
  clear c_b_0 c_b_1 l_b
  have z4 := hb.size; simp at z4
  replace B := below_after (B.alloc (by first | omega | (simp; done) | (simp; omega)) _) hb (by first | omega | (simp; done) | (simp; omega))
  replace K_a := Lib.hid (blk_below (blk_alloc K_a.out _) hb (by first | omega | (simp; done) | (simp; omega)))
  replace K_b := Lib.hid (blk_below (blk_alloc K_b.out _) hb (by first | omega | (simp; done) | (simp; omega)))
  replace K_c := Lib.hid (blk_below (blk_alloc K_c.out _) hb (by first | omega | (simp; done) | (simp; omega)))
  replace K_ab := Lib.hid (blk_below (blk_alloc K_ab.out _) hb (by first | omega | (simp; done) | (simp; omega)))
  have K_ba := blk_below (blk_new _ _) hb (by first | omega | (simp; done) | (simp; omega))
  replace K_ba := Lib.hid K_ba
  clear hb
  have l_a : w.heap.size < w4.heap.size := by omega
  have c_a_0 := blk_cell K_a.out 0; simp at c_a_0
  have c_a_1 := blk_cell K_a.out 1; simp at c_a_1
  have l_b : w.heap.size + 1 < w4.heap.size := by omega
  have c_b_0 := blk_cell K_b.out 0; simp at c_b_0
  have c_b_1 := blk_cell K_b.out 1; simp at c_b_1
  go_wp2_with fail
  refine (mul_any _ _ _ _ _).mono ?_; rintro e w5 ⟨rfl, hb⟩
  rw [(mulN_comm an ad bn bd).1, (mulN_comm an ad bn bd).2.1, (mulN_comm an ad bn bd).2.2]
  clear c_a_0 c_a_1 l_a
  clear c_b_0 c_b_1 l_b
  have z5 := hb.size; simp at z5
  replace B := below_after (B.alloc (by first | omega | (simp; done) | (simp; omega)) _) hb (by first | omega | (simp; done) | (simp; omega))
  replace K_a := Lib.hid (blk_below (blk_alloc K_a.out _) hb (by first | omega | (simp; done) | (simp; omega)))
  replace K_b := Lib.hid (blk_below (blk_alloc K_b.out _) hb (by first | omega | (simp; done) | (simp; omega)))
  replace K_c := Lib.hid (blk_below (blk_alloc K_c.out _) hb (by first | omega | (simp; done) | (simp; omega)))
  replace K_ab := Lib.hid (blk_below (blk_alloc K_ab.out _) hb (by first | omega | (simp; done) | (simp; omega)))
  replace K_ba := Lib.hid (blk_below (blk_alloc K_ba.out _) hb (by first | omega | (simp; done) | (simp; omega)))
  have K_p := blk_below (blk_new _ _) hb (by first | omega | (simp; done) | (simp; omega))
  replace K_p := Lib.hid K_p
  clear hb
  have l_ab : w2.heap.size < w5.heap.size := by omega
  have c_ab_0 := blk_cell K_ab.out 0; simp at c_ab_0
  have c_ab_1 := blk_cell K_ab.out 1; simp at c_ab_1
  have l_ba : w3.heap.size < w5.heap.size := by omega
  have c_ba_0 := blk_cell K_ba.out 0; simp at c_ba_0
  have c_ba_1 := blk_cell K_ba.out 1; simp at c_ba_1
  have l_p : w4.heap.size < w5.heap.size := by omega
  have c_p_0 := blk_cell K_p.out 0; simp at c_p_0
  have c_p_1 := blk_cell K_p.out 1; simp at c_p_1
  have l_b : w.heap.size + 1 < w5.heap.size := by omega
  have c_b_0 := blk_cell K_b.out 0; simp at c_b_0
  have c_b_1 := blk_cell K_b.out 1; simp at c_b_1
  have l_c : w.heap.size + 1 + 1 < w5.heap.size := by omega
  have c_c_0 := blk_cell K_c.out 0; simp at c_c_0
  have c_c_1 := blk_cell K_c.out 1; simp at c_c_1
  go_wp2_with fail
  refine (add_any _ _ _ _ _).mono ?_; rintro e w6 ⟨rfl, hb⟩
  clear c_b_0 c_b_1 l_b
  clear c_c_0 c_c_1 l_c
  have z6 := hb.size; simp at z6
  replace B := below_after (B.alloc (by first | omega | (simp; done) | (simp; omega)) _) hb (by first | omega | (simp; done) | (simp; omega))
  replace K_a := Lib.hid (blk_below (blk_alloc K_a.out _) hb (by first | omega | (simp; done) | (simp; omega)))
  replace K_b := Lib.hid (blk_below (blk_alloc K_b.out _) hb (by first | omega | (simp; done) | (simp; omega)))
  replace K_c := Lib.hid (blk_below (blk_alloc K_c.out _) hb (by first | omega | (simp; done) | (simp; omega)))
  replace K_ab := Lib.hid (blk_below (blk_alloc K_ab.out _) hb (by first | omega | (simp; done) | (simp; omega)))
  replace K_ba := Lib.hid (blk_below (blk_alloc K_ba.out _) hb (by first | omega | (simp; done) | (simp; omega)))
  replace K_p := Lib.hid (blk_below (blk_alloc K_p.out _) hb (by first | omega | (simp; done) | (simp; omega)))
  have K_q := blk_below (blk_new _ _) hb (by first | omega | (simp; done) | (simp; omega))
  replace K_q := Lib.hid K_q
  clear hb
  clear c_ab_0 c_ab_1 c_ba_0 c_ba_1 c_p_0 c_p_1 l_ab l_ba l_p
  have l_b : w.heap.size + 1 < w6.heap.size := by omega
  have c_b_0 := blk_cell K_b.out 0; simp at c_b_0
  have c_b_1 := blk_cell K_b.out 1; simp at c_b_1
  have l_c : w.heap.size + 1 + 1 < w6.heap.size := by omega
  have c_c_0 := blk_cell K_c.out 0; simp at c_c_0
  have c_c_1 := blk_cell K_c.out 1; simp at c_c_1
  go_wp2_with fail
  refine (mul_any _ _ _ _ _).mono ?_; rintro e w7 ⟨rfl, hb⟩
  clear c_b_0 c_b_1 l_b
  clear c_c_0 c_c_1 l_c
  have z7 := hb.size; simp at z7
  replace B := below_after (B.alloc (by first | omega | (simp; done) | (simp; omega)) _) hb (by first | omega | (simp; done) | (simp; omega))
  replace K_a := Lib.hid (blk_below (blk_alloc K_a.out _) hb (by first | omega | (simp; done) | (simp; omega)))
  replace K_b := Lib.hid (blk_below (blk_alloc K_b.out _) hb (by first | omega | (simp; done) | (simp; omega)))
  replace K_c := Lib.hid (blk_below (blk_alloc K_c.out _) hb (by first | omega | (simp; done) | (simp; omega)))
  replace K_ab := Lib.hid (blk_below (blk_alloc K_ab.out _) hb (by first | omega | (simp; done) | (simp; omega)))
  replace K_ba := Lib.hid (blk_below (blk_alloc K_ba.out _) hb (by first | omega | (simp; done) | (simp; omega)))
  replace K_p := Lib.hid (blk_below (blk_alloc K_p.out _) hb (by first | omega | (simp; done) | (simp; omega)))
  replace K_q := Lib.hid (blk_below (blk_alloc K_q.out _) hb (by first | omega | (simp; done) | (simp; omega)))
  have K_bc := blk_below (blk_new _ _) hb (by first | omega | (simp; done) | (simp; omega))
  replace K_bc := Lib.hid K_bc
  clear hb
  have l_a : w.heap.size < w7.heap.size := by omega
  have c_a_0 := blk_cell K_a.out 0; simp at c_a_0
  have c_a_1 := blk_cell K_a.out 1; simp at c_a_1
  have l_c : w.heap.size + 1 + 1 < w7.heap.size := by omega
  have c_c_0 := blk_cell K_c.out 0; simp at c_c_0
  have c_c_1 := blk_cell K_c.out 1; simp at c_c_1
  go_wp2_with fail
  refine (mul_any _ _ _ _ _).mono ?_; rintro e w8 ⟨rfl, hb⟩
  clear c_a_0 c_a_1 l_a
  clear c_c_0 c_c_1 l_c
  have z8 := hb.size; simp at z8
  replace B := below_after (B.alloc (by first | omega | (simp; done) | (simp; omega)) _) hb (by first | omega | (simp; done) | (simp; omega))
  replace K_a := Lib.hid (blk_below (blk_alloc K_a.out _) hb (by first | omega | (simp; done) | (simp; omega)))
  replace K_b := Lib.hid (blk_below (blk_alloc K_b.out _) hb (by first | omega | (simp; done) | (simp; omega)))
  replace K_c := Lib.hid (blk_below (blk_alloc K_c.out _) hb (by first | omega | (simp; done) | (simp; omega)))
  replace K_ab := Lib.hid (blk_below (blk_alloc K_ab.out _) hb (by first | omega | (simp; done) | (simp; omega)))
  replace K_ba := Lib.hid (blk_below (blk_alloc K_ba.out _) hb (by first | omega | (simp; done) | (simp; omega)))
  replace K_p := Lib.hid (blk_below (blk_alloc K_p.out _) hb (by first | omega | (simp; done) | (simp; omega)))
  replace K_q := Lib.hid (blk_below (blk_alloc K_q.out _) hb (by first | omega | (simp; done) | (simp; omega)))
  replace K_bc := Lib.hid (blk_below (blk_alloc K_bc.out _) hb (by first | omega | (simp; done) | (simp; omega)))
  have K_r := blk_below (blk_new _ _) hb (by first | omega | (simp; done) | (simp; omega))
  replace K_r := Lib.hid K_r
  clear hb
  have l_ab : w2.heap.size < w8.heap.size := by omega
  have c_ab_0 := blk_cell K_ab.out 0; simp at c_ab_0
  have c_ab_1 := blk_cell K_ab.out 1; simp at c_ab_1
  have l_c : w.heap.size + 1 + 1 < w8.heap.size := by omega
  have c_c_0 := blk_cell K_c.out 0; simp at c_c_0
  have c_c_1 := blk_cell K_c.out 1; simp at c_c_1
  go_wp2_with fail
  refine (add_any _ _ _ _ _).mono ?_; rintro e w9 ⟨rfl, hb⟩
  clear c_ab_0 c_ab_1 l_ab
  clear c_c_0 c_c_1 l_c
  have z9 := hb.size; simp at z9
  replace B := below_after (B.alloc (by first | omega | (simp; done) | (simp; omega)) _) hb (by first | omega | (simp; done) | (simp; omega))
  replace K_a := Lib.hid (blk_below (blk_alloc K_a.out _) hb (by first | omega | (simp; done) | (simp; omega)))
  replace K_b := Lib.hid (blk_below (blk_alloc K_b.out _) hb (by first | omega | (simp; done) | (simp; omega)))
  replace K_c := Lib.hid (blk_below (blk_alloc K_c.out _) hb (by first | omega | (simp; done) | (simp; omega)))
  replace K_ab := Lib.hid (blk_below (blk_alloc K_ab.out _) hb (by first | omega | (simp; done) | (simp; omega)))
  replace K_ba := Lib.hid (blk_below (blk_alloc K_ba.out _) hb (by first | omega | (simp; done) | (simp; omega)))
  replace K_p := Lib.hid (blk_below (blk_alloc K_p.out _) hb (by first | omega | (simp; done) | (simp; omega)))
  replace K_q := Lib.hid (blk_below (blk_alloc K_q.out _) hb (by first | omega | (simp; done) | (simp; omega)))
  replace K_bc := Lib.hid (blk_below (blk_alloc K_bc.out _) hb (by first | omega | (simp; done) | (simp; omega)))
  replace K_r := Lib.hid (blk_below (blk_alloc K_r.out _) hb (by first | omega | (simp; done) | (simp; omega)))
  have K_ac := blk_below (blk_new _ _) hb (by first | omega | (simp; done) | (simp; omega))
  replace K_ac := Lib.hid K_ac
  clear hb
  have l_a : w.heap.size < w9.heap.size := by omega
  have c_a_0 := blk_cell K_a.out 0; simp at c_a_0
  have c_a_1 := blk_cell K_a.out 1; simp at c_a_1
  have l_bc : w6.heap.size < w9.heap.size := by omega
  have c_bc_0 := blk_cell K_bc.out 0; simp at c_bc_0
  have c_bc_1 := blk_cell K_bc.out 1; simp at c_bc_1
  go_wp2_with fail
  refine (add_any _ _ _ _ _).mono ?_; rintro e w10 ⟨rfl, hb⟩
  rw [(add_assoc HE.out HI.out).1, (add_assoc HE.out HI.out).2.1, (add_assoc HE.out HI.out).2.2]
  clear c_a_0 c_a_1 l_a
  clear c_bc_0 c_bc_1 l_bc
  have z10 := hb.size; simp at z10
  replace B := below_after (B.alloc (by first | omega | (simp; done) | (simp; omega)) _) hb (by first | omega | (simp; done) | (simp; omega))
  replace K_a := Lib.hid (blk_below (blk_alloc K_a.out _) hb (by first | omega | (simp; done) | (simp; omega)))
  replace K_b := Lib.hid (blk_below (blk_alloc K_b.out _) hb (by first | omega | (simp; done) | (simp; omega)))
  replace K_c := Lib.hid (blk_below (blk_alloc K_c.out _) hb (by first | omega | (simp; done) | (simp; omega)))
  replace K_ab := Lib.hid (blk_below (blk_alloc K_ab.out _) hb (by first | omega | (simp; done) | (simp; omega)))
  replace K_ba := Lib.hid (blk_below (blk_alloc K_ba.out _) hb (by first | omega | (simp; done) | (simp; omega)))
  replace K_p := Lib.hid (blk_below (blk_alloc K_p.out _) hb (by first | omega | (simp; done) | (simp; omega)))
  replace K_q := Lib.hid (blk_below (blk_alloc K_q.out _) hb (by first | omega | (simp; done) | (simp; omega)))
  replace K_bc := Lib.hid (blk_below (blk_alloc K_bc.out _) hb (by first | omega | (simp; done) | (simp; omega)))
  replace K_r := Lib.hid (blk_below (blk_alloc K_r.out _) hb (by first | omega | (simp; done) | (simp; omega)))
  replace K_ac := Lib.hid (blk_below (blk_alloc K_ac.out _) hb (by first | omega | (simp; done) | (simp; omega)))
  have K_x := blk_below (blk_new _ _) hb (by first | omega | (simp; done) | (simp; omega))
  replace K_x := Lib.hid K_x
  clear hb
  have l_x : w9.heap.size < w10.heap.size := by omega
  have c_x_0 := blk_cell K_x.out 0; simp at c_x_0
  have c_x_1 := blk_cell K_x.out 1; simp at c_x_1
  go_wp2
  go_ret
  exact ⟨by simp, B.alloc (by first | omega | (simp; done) | (simp; omega)) _⟩

set_option maxRecDepth 100000 in
set_option maxHeartbeats 4000000 in
theorem rationalField_tftfn (an ad bn bd cn cd : Int) (he : addE an ad bn bd = 0) (hi : addE bn bd cn cd ≠ 0) (hg : mulE an ad bn bd = 0) (hj : mulE bn bd cn cd ≠ 0) (w : World) :
    Calls Try.prog 5 #[.agg #[.int .i64 an, .int .i64 ad], .agg #[.int .i64 bn, .int .i64 bd], .agg #[.int .i64 cn, .int .i64 cd]] w fun e w' => e = .returned (.bool true) ∧ Below w.heap.size w w' := by
  have te : (addE an ad bn bd == 0) = true := by simpa using he
  have ue : (addE an ad bn bd != 0) = false := by simpa using he
  have HE := Lib.hid he; clear he
  have ti : (addE bn bd cn cd == 0) = false := by simpa using hi
  have ui : (addE bn bd cn cd != 0) = true := by simpa using hi
  have HI := Lib.hid hi; clear hi
  have tg : (mulE an ad bn bd == 0) = true := by simpa using hg
  have ug : (mulE an ad bn bd != 0) = false := by simpa using hg
  have HG := Lib.hid hg; clear hg
  have tj : (mulE bn bd cn cd == 0) = false := by simpa using hj
  have uj : (mulE bn bd cn cd != 0) = true := by simpa using hj
  have HJ := Lib.hid hj; clear hj
  have B := Below.refl w.heap.size w
  go_enter Try.func5, Try.ntmps5
  go_wp2_with fail
  refine (sane_any _).mono ?_; rintro e w1 ⟨rfl, hb⟩
  have z1 := hb.size; simp at z1
  replace B := below_after (((B.alloc (by first | omega | (simp; done) | (simp; omega)) _).alloc (by first | omega | (simp; done) | (simp; omega)) _).alloc (by first | omega | (simp; done) | (simp; omega)) _) hb (by first | omega | (simp; done) | (simp; omega))
  have K_a := blk_below (blk_alloc (blk_alloc (blk_new _ _) _) _) hb (by first | omega | (simp; done) | (simp; omega))
  replace K_a := Lib.hid K_a
  have K_b := blk_below (blk_alloc (blk_new _ _) _) hb (by first | omega | (simp; done) | (simp; omega))
  rw [World.size_alloc] at K_b
  replace K_b := Lib.hid K_b
  have K_c := blk_below (blk_new _ _) hb (by first | omega | (simp; done) | (simp; omega))
  rw [World.size_alloc, World.size_alloc] at K_c
  replace K_c := Lib.hid K_c
  clear hb
  have c_a_0 := blk_cell K_a.out 0; simp at c_a_0
  have c_a_1 := blk_cell K_a.out 1; simp at c_a_1
  have c_b_0 := blk_cell K_b.out 0; simp at c_b_0
  have c_b_1 := blk_cell K_b.out 1; simp at c_b_1
  go_wp2_with fail
  refine (add_any _ _ _ _ _).mono ?_; rintro e w2 ⟨rfl, hb⟩
  clear c_a_0 c_a_1
  clear c_b_0 c_b_1
  have z2 := hb.size
  replace B := below_after B hb (by first | omega | (simp; done) | (simp; omega))
  replace K_a := Lib.hid (blk_below K_a.out hb (by first | omega | (simp; done) | (simp; omega)))
  replace K_b := Lib.hid (blk_below K_b.out hb (by first | omega | (simp; done) | (simp; omega)))
  replace K_c := Lib.hid (blk_below K_c.out hb (by first | omega | (simp; done) | (simp; omega)))
  clear hb
  have l_a : w.heap.size < w2.heap.size := by omega
  have c_a_0 := blk_cell K_a.out 0; simp at c_a_0
  have c_a_1 := blk_cell K_a.out 1; simp at c_a_1
  have l_b : w.heap.size + 1 < w2.heap.size := by omega
  have c_b_0 := blk_cell K_b.out 0; simp at c_b_0
  have c_b_1 := blk_cell K_b.out 1; simp at c_b_1
  go_wp2_with fail
  refine (add_any _ _ _ _ _).mono ?_; rintro e w3 ⟨rfl, hb⟩
  rw [(addN_comm an ad bn bd).1, (addN_comm an ad bn bd).2.1, (addN_comm an ad bn bd).2.2]
  clear c_a_0 c_a_1 l_a
  clear c_b_0 c_b_1 l_b
  have z3 := hb.size; simp at z3
  replace B := below_after (B.alloc (by first | omega | (simp; done) | (simp; omega)) _) hb (by first | omega | (simp; done) | (simp; omega))
  replace K_a := Lib.hid (blk_below (blk_alloc K_a.out _) hb (by first | omega | (simp; done) | (simp; omega)))
  replace K_b := Lib.hid (blk_below (blk_alloc K_b.out _) hb (by first | omega | (simp; done) | (simp; omega)))
  replace K_c := Lib.hid (blk_below (blk_alloc K_c.out _) hb (by first | omega | (simp; done) | (simp; omega)))
  have K_ab := blk_below (blk_new _ _) hb (by first | omega | (simp; done) | (simp; omega))
  replace K_ab := Lib.hid K_ab
  clear hb
  have l_a : w.heap.size < w3.heap.size := by omega
  have c_a_0 := blk_cell K_a.out 0; simp at c_a_0
  have c_a_1 := blk_cell K_a.out 1; simp at c_a_1
  have l_b : w.heap.size + 1 < w3.heap.size := by omega
  have c_b_0 := blk_cell K_b.out 0; simp at c_b_0
  have c_b_1 := blk_cell K_b.out 1; simp at c_b_1
  go_wp2_with fail
  refine (mul_any _ _ _ _ _).mono ?_; rintro e w4 ⟨rfl, hb⟩
  clear c_a_0 c_a_1 l_a
  clear c_b_0 c_b_1 l_b
  have z4 := hb.size; simp at z4
  replace B := below_after (B.alloc (by first | omega | (simp; done) | (simp; omega)) _) hb (by first | omega | (simp; done) | (simp; omega))
  replace K_a := Lib.hid (blk_below (blk_alloc K_a.out _) hb (by first | omega | (simp; done) | (simp; omega)))
  replace K_b := Lib.hid (blk_below (blk_alloc K_b.out _) hb (by first | omega | (simp; done) | (simp; omega)))
  replace K_c := Lib.hid (blk_below (blk_alloc K_c.out _) hb (by first | omega | (simp; done) | (simp; omega)))
  replace K_ab := Lib.hid (blk_below (blk_alloc K_ab.out _) hb (by first | omega | (simp; done) | (simp; omega)))
  have K_ba := blk_below (blk_new _ _) hb (by first | omega | (simp; done) | (simp; omega))
  replace K_ba := Lib.hid K_ba
  clear hb
  have l_a : w.heap.size < w4.heap.size := by omega
  have c_a_0 := blk_cell K_a.out 0; simp at c_a_0
  have c_a_1 := blk_cell K_a.out 1; simp at c_a_1
  have l_b : w.heap.size + 1 < w4.heap.size := by omega
  have c_b_0 := blk_cell K_b.out 0; simp at c_b_0
  have c_b_1 := blk_cell K_b.out 1; simp at c_b_1
  go_wp2_with fail
  refine (mul_any _ _ _ _ _).mono ?_; rintro e w5 ⟨rfl, hb⟩
  rw [(mulN_comm an ad bn bd).1, (mulN_comm an ad bn bd).2.1, (mulN_comm an ad bn bd).2.2]
  clear c_a_0 c_a_1 l_a
  clear c_b_0 c_b_1 l_b
  have z5 := hb.size; simp at z5
  replace B := below_after (B.alloc (by first | omega | (simp; done) | (simp; omega)) _) hb (by first | omega | (simp; done) | (simp; omega))
  replace K_a := Lib.hid (blk_below (blk_alloc K_a.out _) hb (by first | omega | (simp; done) | (simp; omega)))
  replace K_b := Lib.hid (blk_below (blk_alloc K_b.out _) hb (by first | omega | (simp; done) | (simp; omega)))
  replace K_c := Lib.hid (blk_below (blk_alloc K_c.out _) hb (by first | omega | (simp; done) | (simp; omega)))
  replace K_ab := Lib.hid (blk_below (blk_alloc K_ab.out _) hb (by first | omega | (simp; done) | (simp; omega)))
  replace K_ba := Lib.hid (blk_below (blk_alloc K_ba.out _) hb (by first | omega | (simp; done) | (simp; omega)))
  have K_p := blk_below (blk_new _ _) hb (by first | omega | (simp; done) | (simp; omega))
  replace K_p := Lib.hid K_p
  clear hb
  have l_ab : w2.heap.size < w5.heap.size := by omega
  have c_ab_0 := blk_cell K_ab.out 0; simp at c_ab_0
  have c_ab_1 := blk_cell K_ab.out 1; simp at c_ab_1
  have l_ba : w3.heap.size < w5.heap.size := by omega
  have c_ba_0 := blk_cell K_ba.out 0; simp at c_ba_0
  have c_ba_1 := blk_cell K_ba.out 1; simp at c_ba_1
  have l_p : w4.heap.size < w5.heap.size := by omega
  have c_p_0 := blk_cell K_p.out 0; simp at c_p_0
  have c_p_1 := blk_cell K_p.out 1; simp at c_p_1
  have l_b : w.heap.size + 1 < w5.heap.size := by omega
  have c_b_0 := blk_cell K_b.out 0; simp at c_b_0
  have c_b_1 := blk_cell K_b.out 1; simp at c_b_1
  have l_c : w.heap.size + 1 + 1 < w5.heap.size := by omega
  have c_c_0 := blk_cell K_c.out 0; simp at c_c_0
  have c_c_1 := blk_cell K_c.out 1; simp at c_c_1
  go_wp2_with fail
  refine (add_any _ _ _ _ _).mono ?_; rintro e w6 ⟨rfl, hb⟩
  clear c_b_0 c_b_1 l_b
  clear c_c_0 c_c_1 l_c
  have z6 := hb.size; simp at z6
  replace B := below_after (B.alloc (by first | omega | (simp; done) | (simp; omega)) _) hb (by first | omega | (simp; done) | (simp; omega))
  replace K_a := Lib.hid (blk_below (blk_alloc K_a.out _) hb (by first | omega | (simp; done) | (simp; omega)))
  replace K_b := Lib.hid (blk_below (blk_alloc K_b.out _) hb (by first | omega | (simp; done) | (simp; omega)))
  replace K_c := Lib.hid (blk_below (blk_alloc K_c.out _) hb (by first | omega | (simp; done) | (simp; omega)))
  replace K_ab := Lib.hid (blk_below (blk_alloc K_ab.out _) hb (by first | omega | (simp; done) | (simp; omega)))
  replace K_ba := Lib.hid (blk_below (blk_alloc K_ba.out _) hb (by first | omega | (simp; done) | (simp; omega)))
  replace K_p := Lib.hid (blk_below (blk_alloc K_p.out _) hb (by first | omega | (simp; done) | (simp; omega)))
  have K_q := blk_below (blk_new _ _) hb (by first | omega | (simp; done) | (simp; omega))
  replace K_q := Lib.hid K_q
  clear hb
  clear c_ab_0 c_ab_1 c_ba_0 c_ba_1 c_p_0 c_p_1 l_ab l_ba l_p
  have l_b : w.heap.size + 1 < w6.heap.size := by omega
  have c_b_0 := blk_cell K_b.out 0; simp at c_b_0
  have c_b_1 := blk_cell K_b.out 1; simp at c_b_1
  have l_c : w.heap.size + 1 + 1 < w6.heap.size := by omega
  have c_c_0 := blk_cell K_c.out 0; simp at c_c_0
  have c_c_1 := blk_cell K_c.out 1; simp at c_c_1
  go_wp2_with fail
  refine (mul_any _ _ _ _ _).mono ?_; rintro e w7 ⟨rfl, hb⟩
  clear c_b_0 c_b_1 l_b
  clear c_c_0 c_c_1 l_c
  have z7 := hb.size; simp at z7
  replace B := below_after (B.alloc (by first | omega | (simp; done) | (simp; omega)) _) hb (by first | omega | (simp; done) | (simp; omega))
  replace K_a := Lib.hid (blk_below (blk_alloc K_a.out _) hb (by first | omega | (simp; done) | (simp; omega)))
  replace K_b := Lib.hid (blk_below (blk_alloc K_b.out _) hb (by first | omega | (simp; done) | (simp; omega)))
  replace K_c := Lib.hid (blk_below (blk_alloc K_c.out _) hb (by first | omega | (simp; done) | (simp; omega)))
  replace K_ab := Lib.hid (blk_below (blk_alloc K_ab.out _) hb (by first | omega | (simp; done) | (simp; omega)))
  replace K_ba := Lib.hid (blk_below (blk_alloc K_ba.out _) hb (by first | omega | (simp; done) | (simp; omega)))
  replace K_p := Lib.hid (blk_below (blk_alloc K_p.out _) hb (by first | omega | (simp; done) | (simp; omega)))
  replace K_q := Lib.hid (blk_below (blk_alloc K_q.out _) hb (by first | omega | (simp; done) | (simp; omega)))
  have K_bc := blk_below (blk_new _ _) hb (by first | omega | (simp; done) | (simp; omega))
  replace K_bc := Lib.hid K_bc
  clear hb
  have l_a : w.heap.size < w7.heap.size := by omega
  have c_a_0 := blk_cell K_a.out 0; simp at c_a_0
  have c_a_1 := blk_cell K_a.out 1; simp at c_a_1
  have l_c : w.heap.size + 1 + 1 < w7.heap.size := by omega
  have c_c_0 := blk_cell K_c.out 0; simp at c_c_0
  have c_c_1 := blk_cell K_c.out 1; simp at c_c_1
  go_wp2_with fail
  refine (mul_any _ _ _ _ _).mono ?_; rintro e w8 ⟨rfl, hb⟩
  clear c_a_0 c_a_1 l_a
  clear c_c_0 c_c_1 l_c
  have z8 := hb.size; simp at z8
  replace B := below_after (B.alloc (by first | omega | (simp; done) | (simp; omega)) _) hb (by first | omega | (simp; done) | (simp; omega))
  replace K_a := Lib.hid (blk_below (blk_alloc K_a.out _) hb (by first | omega | (simp; done) | (simp; omega)))
  replace K_b := Lib.hid (blk_below (blk_alloc K_b.out _) hb (by first | omega | (simp; done) | (simp; omega)))
  replace K_c := Lib.hid (blk_below (blk_alloc K_c.out _) hb (by first | omega | (simp; done) | (simp; omega)))
  replace K_ab := Lib.hid (blk_below (blk_alloc K_ab.out _) hb (by first | omega | (simp; done) | (simp; omega)))
  replace K_ba := Lib.hid (blk_below (blk_alloc K_ba.out _) hb (by first | omega | (simp; done) | (simp; omega)))
  replace K_p := Lib.hid (blk_below (blk_alloc K_p.out _) hb (by first | omega | (simp; done) | (simp; omega)))
  replace K_q := Lib.hid (blk_below (blk_alloc K_q.out _) hb (by first | omega | (simp; done) | (simp; omega)))
  replace K_bc := Lib.hid (blk_below (blk_alloc K_bc.out _) hb (by first | omega | (simp; done) | (simp; omega)))
  have K_r := blk_below (blk_new _ _) hb (by first | omega | (simp; done) | (simp; omega))
  replace K_r := Lib.hid K_r
  clear hb
  go_wp2
  go_ret
  exact ⟨by simp, B.alloc (by first | omega | (simp; done) | (simp; omega)) _⟩

set_option maxRecDepth 100000 in
set_option maxHeartbeats 4000000 in
theorem rationalField_ftttf (an ad bn bd cn cd : Int) (he : addE an ad bn bd ≠ 0) (hi : addE bn bd cn cd = 0) (hg : mulE an ad bn bd = 0) (hj : mulE bn bd cn cd = 0) (hk : mulE an ad cn cd ≠ 0) (w : World) :
    Calls Try.prog 5 #[.agg #[.int .i64 an, .int .i64 ad], .agg #[.int .i64 bn, .int .i64 bd], .agg #[.int .i64 cn, .int .i64 cd]] w fun e w' => e = .returned (.bool true) ∧ Below w.heap.size w w' := by
  have te : (addE an ad bn bd == 0) = false := by simpa using he
  have ue : (addE an ad bn bd != 0) = true := by simpa using he
  have HE := Lib.hid he; clear he
  have ti : (addE bn bd cn cd == 0) = true := by simpa using hi
  have ui : (addE bn bd cn cd != 0) = false := by simpa using hi
  have HI := Lib.hid hi; clear hi
  have tg : (mulE an ad bn bd == 0) = true := by simpa using hg
  have ug : (mulE an ad bn bd != 0) = false := by simpa using hg
  have HG := Lib.hid hg; clear hg
  have tj : (mulE bn bd cn cd == 0) = true := by simpa using hj
  have uj : (mulE bn bd cn cd != 0) = false := by simpa using hj
  have HJ := Lib.hid hj; clear hj
  have tk : (mulE an ad cn cd == 0) = false := by simpa using hk
  have uk : (mulE an ad cn cd != 0) = true := by simpa using hk
  have HK := Lib.hid hk; clear hk
  have B := Below.refl w.heap.size w
  go_enter Try.func5, Try.ntmps5
  go_wp2_with fail
  refine (sane_any _).mono ?_; rintro e w1 ⟨rfl, hb⟩
  have z1 := hb.size; simp at z1
  replace B := below_after (((B.alloc (by first | omega | (simp; done) | (simp; omega)) _).alloc (by first | omega | (simp; done) | (simp; omega)) _).alloc (by first | omega | (simp; done) | (simp; omega)) _) hb (by first | omega | (simp; done) | (simp; omega))
  have K_a := blk_below (blk_alloc (blk_alloc (blk_new _ _) _) _) hb (by first | omega | (simp; done) | (simp; omega))
  replace K_a := Lib.hid K_a
  have K_b := blk_below (blk_alloc (blk_new _ _) _) hb (by first | omega | (simp; done) | (simp; omega))
  rw [World.size_alloc] at K_b
  replace K_b := Lib.hid K_b
  have K_c := blk_below (blk_new _ _) hb (by first | omega | (simp; done) | (simp; omega))
  rw [World.size_alloc, World.size_alloc] at K_c
  replace K_c := Lib.hid K_c
  clear hb
  have c_a_0 := blk_cell K_a.out 0; simp at c_a_0
  have c_a_1 := blk_cell K_a.out 1; simp at c_a_1
  have c_b_0 := blk_cell K_b.out 0; simp at c_b_0
  have c_b_1 := blk_cell K_b.out 1; simp at c_b_1
  go_wp2_with fail
  refine (add_any _ _ _ _ _).mono ?_; rintro e w2 ⟨rfl, hb⟩
  clear c_a_0 c_a_1
  clear c_b_0 c_b_1
  have z2 := hb.size
  replace B := below_after B hb (by first | omega | (simp; done) | (simp; omega))
  replace K_a := Lib.hid (blk_below K_a.out hb (by first | omega | (simp; done) | (simp; omega)))
  replace K_b := Lib.hid (blk_below K_b.out hb (by first | omega | (simp; done) | (simp; omega)))
  replace K_c := Lib.hid (blk_below K_c.out hb (by first | omega | (simp; done) | (simp; omega)))
  clear hb
  have l_a : w.heap.size < w2.heap.size := by omega
  have c_a_0 := blk_cell K_a.out 0; simp at c_a_0
  have c_a_1 := blk_cell K_a.out 1; simp at c_a_1
  have l_b : w.heap.size + 1 < w2.heap.size := by omega
  have c_b_0 := blk_cell K_b.out 0; simp at c_b_0
  have c_b_1 := blk_cell K_b.out 1; simp at c_b_1
  go_wp2_with fail
  refine (add_any _ _ _ _ _).mono ?_; rintro e w3 ⟨rfl, hb⟩
  rw [(addN_comm an ad bn bd).1, (addN_comm an ad bn bd).2.1, (addN_comm an ad bn bd).2.2]
  clear c_a_0 c_a_1 l_a
  clear c_b_0 c_b_1 l_b
  have z3 := hb.size; simp at z3
  replace B := below_after (B.alloc (by first | omega | (simp; done) | (simp; omega)) _) hb (by first | omega | (simp; done) | (simp; omega))
  replace K_a := Lib.hid (blk_below (blk_alloc K_a.out _) hb (by first | omega | (simp; done) | (simp; omega)))
  replace K_b := Lib.hid (blk_below (blk_alloc K_b.out _) hb (by first | omega | (simp; done) | (simp; omega)))
  replace K_c := Lib.hid (blk_below (blk_alloc K_c.out _) hb (by first | omega | (simp; done) | (simp; omega)))
  have K_ab := blk_below (blk_new _ _) hb (by first | omega | (simp; done) | (simp; omega))
  replace K_ab := Lib.hid K_ab
  clear hb
  have l_a : w.heap.size < w3.heap.size := by omega
  have c_a_0 := blk_cell K_a.out 0; simp at c_a_0
  have c_a_1 := blk_cell K_a.out 1; simp at c_a_1
  have l_b : w.heap.size + 1 < w3.heap.size := by omega
  have c_b_0 := blk_cell K_b.out 0; simp at c_b_0
  have c_b_1 := blk_cell K_b.out 1; simp at c_b_1
  go_wp2_with fail
  refine (mul_any _ _ _ _ _).mono ?_; rintro e w4 ⟨rfl, hb⟩
  clear c_a_0 c_a_1 l_a
  clear c_b_0 c_b_1 l_b
  have z4 := hb.size; simp at z4
  replace B := below_after (B.alloc (by first | omega | (simp; done) | (simp; omega)) _) hb (by first | omega | (simp; done) | (simp; omega))
  replace K_a := Lib.hid (blk_below (blk_alloc K_a.out _) hb (by first | omega | (simp; done) | (simp; omega)))
  replace K_b := Lib.hid (blk_below (blk_alloc K_b.out _) hb (by first | omega | (simp; done) | (simp; omega)))
  replace K_c := Lib.hid (blk_below (blk_alloc K_c.out _) hb (by first | omega | (simp; done) | (simp; omega)))
  replace K_ab := Lib.hid (blk_below (blk_alloc K_ab.out _) hb (by first | omega | (simp; done) | (simp; omega)))
  have K_ba := blk_below (blk_new _ _) hb (by first | omega | (simp; done) | (simp; omega))
  replace K_ba := Lib.hid K_ba
  clear hb
  have l_a : w.heap.size < w4.heap.size := by omega
  have c_a_0 := blk_cell K_a.out 0; simp at c_a_0
  have c_a_1 := blk_cell K_a.out 1; simp at c_a_1
  have l_b : w.heap.size + 1 < w4.heap.size := by omega
  have c_b_0 := blk_cell K_b.out 0; simp at c_b_0
  have c_b_1 := blk_cell K_b.out 1; simp at c_b_1
  go_wp2_with fail
  refine (mul_any _ _ _ _ _).mono ?_; rintro e w5 ⟨rfl, hb⟩
  rw [(mulN_comm an ad bn bd).1, (mulN_comm an ad bn bd).2.1, (mulN_comm an ad bn bd).2.2]
  clear c_a_0 c_a_1 l_a
  clear c_b_0 c_b_1 l_b
  have z5 := hb.size; simp at z5
  replace B := below_after (B.alloc (by first | omega | (simp; done) | (simp; omega)) _) hb (by first | omega | (simp; done) | (simp; omega))
  replace K_a := Lib.hid (blk_below (blk_alloc K_a.out _) hb (by first | omega | (simp; done) | (simp; omega)))
  replace K_b := Lib.hid (blk_below (blk_alloc K_b.out _) hb (by first | omega | (simp; done) | (simp; omega)))
  replace K_c := Lib.hid (blk_below (blk_alloc K_c.out _) hb (by first | omega | (simp; done) | (simp; omega)))
  replace K_ab := Lib.hid (blk_below (blk_alloc K_ab.out _) hb (by first | omega | (simp; done) | (simp; omega)))
  replace K_ba := Lib.hid (blk_below (blk_alloc K_ba.out _) hb (by first | omega | (simp; done) | (simp; omega)))
  have K_p := blk_below (blk_new _ _) hb (by first | omega | (simp; done) | (simp; omega))
  replace K_p := Lib.hid K_p
  clear hb
  have l_ab : w2.heap.size < w5.heap.size := by omega
  have c_ab_0 := blk_cell K_ab.out 0; simp at c_ab_0
  have c_ab_1 := blk_cell K_ab.out 1; simp at c_ab_1
  have l_ba : w3.heap.size < w5.heap.size := by omega
  have c_ba_0 := blk_cell K_ba.out 0; simp at c_ba_0
  have c_ba_1 := blk_cell K_ba.out 1; simp at c_ba_1
  have l_p : w4.heap.size < w5.heap.size := by omega
  have c_p_0 := blk_cell K_p.out 0; simp at c_p_0
  have c_p_1 := blk_cell K_p.out 1; simp at c_p_1
  have l_b : w.heap.size + 1 < w5.heap.size := by omega
  have c_b_0 := blk_cell K_b.out 0; simp at c_b_0
  have c_b_1 := blk_cell K_b.out 1; simp at c_b_1
  have l_c : w.heap.size + 1 + 1 < w5.heap.size := by omega
  have c_c_0 := blk_cell K_c.out 0; simp at c_c_0
  have c_c_1 := blk_cell K_c.out 1; simp at c_c_1
  go_wp2_with fail
  refine (add_any _ _ _ _ _).mono ?_; rintro e w6 ⟨rfl, hb⟩
  clear c_b_0 c_b_1 l_b
  clear c_c_0 c_c_1 l_c
  have z6 := hb.size; simp at z6
  replace B := below_after (B.alloc (by first | omega | (simp; done) | (simp; omega)) _) hb (by first | omega | (simp; done) | (simp; omega))
  replace K_a := Lib.hid (blk_below (blk_alloc K_a.out _) hb (by first | omega | (simp; done) | (simp; omega)))
  replace K_b := Lib.hid (blk_below (blk_alloc K_b.out _) hb (by first | omega | (simp; done) | (simp; omega)))
  replace K_c := Lib.hid (blk_below (blk_alloc K_c.out _) hb (by first | omega | (simp; done) | (simp; omega)))
  replace K_ab := Lib.hid (blk_below (blk_alloc K_ab.out _) hb (by first | omega | (simp; done) | (simp; omega)))
  replace K_ba := Lib.hid (blk_below (blk_alloc K_ba.out _) hb (by first | omega | (simp; done) | (simp; omega)))
  replace K_p := Lib.hid (blk_below (blk_alloc K_p.out _) hb (by first | omega | (simp; done) | (simp; omega)))
  have K_q := blk_below (blk_new _ _) hb (by first | omega | (simp; done) | (simp; omega))
  replace K_q := Lib.hid K_q
  clear hb
  clear c_ab_0 c_ab_1 c_ba_0 c_ba_1 c_p_0 c_p_1 l_ab l_ba l_p
  have l_b : w.heap.size + 1 < w6.heap.size := by omega
  have c_b_0 := blk_cell K_b.out 0; simp at c_b_0
  have c_b_1 := blk_cell K_b.out 1; simp at c_b_1
  have l_c : w.heap.size + 1 + 1 < w6.heap.size := by omega
  have c_c_0 := blk_cell K_c.out 0; simp at c_c_0
  have c_c_1 := blk_cell K_c.out 1; simp at c_c_1
  go_wp2_with fail
  refine (mul_any _ _ _ _ _).mono ?_; rintro e w7 ⟨rfl, hb⟩
  clear c_b_0 c_b_1 l_b
  clear c_c_0 c_c_1 l_c
  have z7 := hb.size; simp at z7
  replace B := below_after (B.alloc (by first | omega | (simp; done) | (simp; omega)) _) hb (by first | omega | (simp; done) | (simp; omega))
  replace K_a := Lib.hid (blk_below (blk_alloc K_a.out _) hb (by first | omega | (simp; done) | (simp; omega)))
  replace K_b := Lib.hid (blk_below (blk_alloc K_b.out _) hb (by first | omega | (simp; done) | (simp; omega)))
  replace K_c := Lib.hid (blk_below (blk_alloc K_c.out _) hb (by first | omega | (simp; done) | (simp; omega)))
  replace K_ab := Lib.hid (blk_below (blk_alloc K_ab.out _) hb (by first | omega | (simp; done) | (simp; omega)))
  replace K_ba := Lib.hid (blk_below (blk_alloc K_ba.out _) hb (by first | omega | (simp; done) | (simp; omega)))
  replace K_p := Lib.hid (blk_below (blk_alloc K_p.out _) hb (by first | omega | (simp; done) | (simp; omega)))
  replace K_q := Lib.hid (blk_below (blk_alloc K_q.out _) hb (by first | omega | (simp; done) | (simp; omega)))
  have K_bc := blk_below (blk_new _ _) hb (by first | omega | (simp; done) | (simp; omega))
  replace K_bc := Lib.hid K_bc
  clear hb
  have l_a : w.heap.size < w7.heap.size := by omega
  have c_a_0 := blk_cell K_a.out 0; simp at c_a_0
  have c_a_1 := blk_cell K_a.out 1; simp at c_a_1
  have l_c : w.heap.size + 1 + 1 < w7.heap.size := by omega
  have c_c_0 := blk_cell K_c.out 0; simp at c_c_0
  have c_c_1 := blk_cell K_c.out 1; simp at c_c_1
  go_wp2_with fail
  refine (mul_any _ _ _ _ _).mono ?_; rintro e w8 ⟨rfl, hb⟩
  clear c_a_0 c_a_1 l_a
  clear c_c_0 c_c_1 l_c
  have z8 := hb.size; simp at z8
  replace B := below_after (B.alloc (by first | omega | (simp; done) | (simp; omega)) _) hb (by first | omega | (simp; done) | (simp; omega))
  replace K_a := Lib.hid (blk_below (blk_alloc K_a.out _) hb (by first | omega | (simp; done) | (simp; omega)))
  replace K_b := Lib.hid (blk_below (blk_alloc K_b.out _) hb (by first | omega | (simp; done) | (simp; omega)))
  replace K_c := Lib.hid (blk_below (blk_alloc K_c.out _) hb (by first | omega | (simp; done) | (simp; omega)))
  replace K_ab := Lib.hid (blk_below (blk_alloc K_ab.out _) hb (by first | omega | (simp; done) | (simp; omega)))
  replace K_ba := Lib.hid (blk_below (blk_alloc K_ba.out _) hb (by first | omega | (simp; done) | (simp; omega)))
  replace K_p := Lib.hid (blk_below (blk_alloc K_p.out _) hb (by first | omega | (simp; done) | (simp; omega)))
  replace K_q := Lib.hid (blk_below (blk_alloc K_q.out _) hb (by first | omega | (simp; done) | (simp; omega)))
  replace K_bc := Lib.hid (blk_below (blk_alloc K_bc.out _) hb (by first | omega | (simp; done) | (simp; omega)))
  have K_r := blk_below (blk_new _ _) hb (by first | omega | (simp; done) | (simp; omega))
  replace K_r := Lib.hid K_r
  clear hb
  have l_p : w4.heap.size < w8.heap.size := by omega
  have c_p_0 := blk_cell K_p.out 0; simp at c_p_0
  have c_p_1 := blk_cell K_p.out 1; simp at c_p_1
  have l_c : w.heap.size + 1 + 1 < w8.heap.size := by omega
  have c_c_0 := blk_cell K_c.out 0; simp at c_c_0
  have c_c_1 := blk_cell K_c.out 1; simp at c_c_1
  go_wp2_with fail
  refine (mul_any _ _ _ _ _).mono ?_; rintro e w9 ⟨rfl, hb⟩
  clear c_p_0 c_p_1 l_p
  clear c_c_0 c_c_1 l_c
  have z9 := hb.size; simp at z9
  replace B := below_after (B.alloc (by first | omega | (simp; done) | (simp; omega)) _) hb (by first | omega | (simp; done) | (simp; omega))
  replace K_a := Lib.hid (blk_below (blk_alloc K_a.out _) hb (by first | omega | (simp; done) | (simp; omega)))
  replace K_b := Lib.hid (blk_below (blk_alloc K_b.out _) hb (by first | omega | (simp; done) | (simp; omega)))
  replace K_c := Lib.hid (blk_below (blk_alloc K_c.out _) hb (by first | omega | (simp; done) | (simp; omega)))
  replace K_ab := Lib.hid (blk_below (blk_alloc K_ab.out _) hb (by first | omega | (simp; done) | (simp; omega)))
  replace K_ba := Lib.hid (blk_below (blk_alloc K_ba.out _) hb (by first | omega | (simp; done) | (simp; omega)))
  replace K_p := Lib.hid (blk_below (blk_alloc K_p.out _) hb (by first | omega | (simp; done) | (simp; omega)))
  replace K_q := Lib.hid (blk_below (blk_alloc K_q.out _) hb (by first | omega | (simp; done) | (simp; omega)))
  replace K_bc := Lib.hid (blk_below (blk_alloc K_bc.out _) hb (by first | omega | (simp; done) | (simp; omega)))
  replace K_r := Lib.hid (blk_below (blk_alloc K_r.out _) hb (by first | omega | (simp; done) | (simp; omega)))
  have K_ac := blk_below (blk_new _ _) hb (by first | omega | (simp; done) | (simp; omega))
  replace K_ac := Lib.hid K_ac
  clear hb
  have l_a : w.heap.size < w9.heap.size := by omega
  have c_a_0 := blk_cell K_a.out 0; simp at c_a_0
  have c_a_1 := blk_cell K_a.out 1; simp at c_a_1
  have l_r : w7.heap.size < w9.heap.size := by omega
  have c_r_0 := blk_cell K_r.out 0; simp at c_r_0
  have c_r_1 := blk_cell K_r.out 1; simp at c_r_1
  go_wp2_with fail
  refine (mul_any _ _ _ _ _).mono ?_; rintro e w10 ⟨rfl, hb⟩
  rw [(mul_assoc' HG.out HJ.out).1, (mul_assoc' HG.out HJ.out).2.1, (mul_assoc' HG.out HJ.out).2.2]
  clear c_a_0 c_a_1 l_a
  clear c_r_0 c_r_1 l_r
  have z10 := hb.size; simp at z10
  replace B := below_after (B.alloc (by first | omega | (simp; done) | (simp; omega)) _) hb (by first | omega | (simp; done) | (simp; omega))
  replace K_a := Lib.hid (blk_below (blk_alloc K_a.out _) hb (by first | omega | (simp; done) | (simp; omega)))
  replace K_b := Lib.hid (blk_below (blk_alloc K_b.out _) hb (by first | omega | (simp; done) | (simp; omega)))
  replace K_c := Lib.hid (blk_below (blk_alloc K_c.out _) hb (by first | omega | (simp; done) | (simp; omega)))
  replace K_ab := Lib.hid (blk_below (blk_alloc K_ab.out _) hb (by first | omega | (simp; done) | (simp; omega)))
  replace K_ba := Lib.hid (blk_below (blk_alloc K_ba.out _) hb (by first | omega | (simp; done) | (simp; omega)))
  replace K_p := Lib.hid (blk_below (blk_alloc K_p.out _) hb (by first | omega | (simp; done) | (simp; omega)))
  replace K_q := Lib.hid (blk_below (blk_alloc K_q.out _) hb (by first | omega | (simp; done) | (simp; omega)))
  replace K_bc := Lib.hid (blk_below (blk_alloc K_bc.out _) hb (by first | omega | (simp; done) | (simp; omega)))
  replace K_r := Lib.hid (blk_below (blk_alloc K_r.out _) hb (by first | omega | (simp; done) | (simp; omega)))
  replace K_ac := Lib.hid (blk_below (blk_alloc K_ac.out _) hb (by first | omega | (simp; done) | (simp; omega)))
  have K_x2 := blk_below (blk_new _ _) hb (by first | omega | (simp; done) | (simp; omega))
  replace K_x2 := Lib.hid K_x2
  clear hb
  have l_x2 : w9.heap.size < w10.heap.size := by omega
  have c_x2_0 := blk_cell K_x2.out 0; simp at c_x2_0
  have c_x2_1 := blk_cell K_x2.out 1; simp at c_x2_1
  go_wp2
  go_ret
  exact ⟨by simp, B.alloc (by first | omega | (simp; done) | (simp; omega)) _⟩

set_option maxRecDepth 100000 in
set_option maxHeartbeats 4000000 in
theorem rationalField_ftfnn (an ad bn bd cn cd : Int) (he : addE an ad bn bd ≠ 0) (hi : addE bn bd cn cd = 0) (hg : mulE an ad bn bd ≠ 0) (w : World) :
    Calls Try.prog 5 #[.agg #[.int .i64 an, .int .i64 ad], .agg #[.int .i64 bn, .int .i64 bd], .agg #[.int .i64 cn, .int .i64 cd]] w fun e w' => e = .returned (.bool true) ∧ Below w.heap.size w w' := by
  have te : (addE an ad bn bd == 0) = false := by simpa using he
  have ue : (addE an ad bn bd != 0) = true := by simpa using he
  have HE := Lib.hid he; clear he
  have ti : (addE bn bd cn cd == 0) = true := by simpa using hi
  have ui : (addE bn bd cn cd != 0) = false := by simpa using hi
  have HI := Lib.hid hi; clear hi
  have tg : (mulE an ad bn bd == 0) = false := by simpa using hg
  have ug : (mulE an ad bn bd != 0) = true := by simpa using hg
  have HG := Lib.hid hg; clear hg
  have B := Below.refl w.heap.size w
  go_enter Try.func5, Try.ntmps5
  go_wp2_with fail
  refine (sane_any _).mono ?_; rintro e w1 ⟨rfl, hb⟩
  have z1 := hb.size; simp at z1
  replace B := below_after (((B.alloc (by first | omega | (simp; done) | (simp; omega)) _).alloc (by first | omega | (simp; done) | (simp; omega)) _).alloc (by first | omega | (simp; done) | (simp; omega)) _) hb (by first | omega | (simp; done) | (simp; omega))
  have K_a := blk_below (blk_alloc (blk_alloc (blk_new _ _) _) _) hb (by first | omega | (simp; done) | (simp; omega))
  replace K_a := Lib.hid K_a
  have K_b := blk_below (blk_alloc (blk_new _ _) _) hb (by first | omega | (simp; done) | (simp; omega))
  rw [World.size_alloc] at K_b
  replace K_b := Lib.hid K_b
  have K_c := blk_below (blk_new _ _) hb (by first | omega | (simp; done) | (simp; omega))
  rw [World.size_alloc, World.size_alloc] at K_c
  replace K_c := Lib.hid K_c
  clear hb
  have c_a_0 := blk_cell K_a.out 0; simp at c_a_0
  have c_a_1 := blk_cell K_a.out 1; simp at c_a_1
  have c_b_0 := blk_cell K_b.out 0; simp at c_b_0
  have c_b_1 := blk_cell K_b.out 1; simp at c_b_1
  go_wp2_with fail
  refine (add_any _ _ _ _ _).mono ?_; rintro e w2 ⟨rfl, hb⟩
  clear c_a_0 c_a_1
  clear c_b_0 c_b_1
  have z2 := hb.size
  replace B := below_after B hb (by first | omega | (simp; done) | (simp; omega))
  replace K_a := Lib.hid (blk_below K_a.out hb (by first | omega | (simp; done) | (simp; omega)))
  replace K_b := Lib.hid (blk_below K_b.out hb (by first | omega | (simp; done) | (simp; omega)))
  replace K_c := Lib.hid (blk_below K_c.out hb (by first | omega | (simp; done) | (simp; omega)))
  clear hb
  have l_a : w.heap.size < w2.heap.size := by omega
  have c_a_0 := blk_cell K_a.out 0; simp at c_a_0
  have c_a_1 := blk_cell K_a.out 1; simp at c_a_1
  have l_b : w.heap.size + 1 < w2.heap.size := by omega
  have c_b_0 := blk_cell K_b.out 0; simp at c_b_0
  have c_b_1 := blk_cell K_b.out 1; simp at c_b_1
  go_wp2_with fail
  refine (add_any _ _ _ _ _).mono ?_; rintro e w3 ⟨rfl, hb⟩
  rw [(addN_comm an ad bn bd).1, (addN_comm an ad bn bd).2.1, (addN_comm an ad bn bd).2.2]
  clear c_a_0 c_a_1 l_a
  clear c_b_0 c_b_1 l_b
  have z3 := hb.size; simp at z3
  replace B := below_after (B.alloc (by first | omega | (simp; done) | (simp; omega)) _) hb (by first | omega | (simp; done) | (simp; omega))
  replace K_a := Lib.hid (blk_below (blk_alloc K_a.out _) hb (by first | omega | (simp; done) | (simp; omega)))
  replace K_b := Lib.hid (blk_below (blk_alloc K_b.out _) hb (by first | omega | (simp; done) | (simp; omega)))
  replace K_c := Lib.hid (blk_below (blk_alloc K_c.out _) hb (by first | omega | (simp; done) | (simp; omega)))
  have K_ab := blk_below (blk_new _ _) hb (by first | omega | (simp; done) | (simp; omega))
  replace K_ab := Lib.hid K_ab
  clear hb
  have l_a : w.heap.size < w3.heap.size := by omega
  have c_a_0 := blk_cell K_a.out 0; simp at c_a_0
  have c_a_1 := blk_cell K_a.out 1; simp at c_a_1
  have l_b : w.heap.size + 1 < w3.heap.size := by omega
  have c_b_0 := blk_cell K_b.out 0; simp at c_b_0
  have c_b_1 := blk_cell K_b.out 1; simp at c_b_1
  go_wp2_with fail
  refine (mul_any _ _ _ _ _).mono ?_; rintro e w4 ⟨rfl, hb⟩
  clear c_a_0 c_a_1 l_a
  clear c_b_0 c_b_1 l_b
  have z4 := hb.size; simp at z4
  replace B := below_after (B.alloc (by first | omega | (simp; done) | (simp; omega)) _) hb (by first | omega | (simp; done) | (simp; omega))
  replace K_a := Lib.hid (blk_below (blk_alloc K_a.out _) hb (by first | omega | (simp; done) | (simp; omega)))
  replace K_b := Lib.hid (blk_below (blk_alloc K_b.out _) hb (by first | omega | (simp; done) | (simp; omega)))
  replace K_c := Lib.hid (blk_below (blk_alloc K_c.out _) hb (by first | omega | (simp; done) | (simp; omega)))
  replace K_ab := Lib.hid (blk_below (blk_alloc K_ab.out _) hb (by first | omega | (simp; done) | (simp; omega)))
  have K_ba := blk_below (blk_new _ _) hb (by first | omega | (simp; done) | (simp; omega))
  replace K_ba := Lib.hid K_ba
  clear hb
  have l_a : w.heap.size < w4.heap.size := by omega
  have c_a_0 := blk_cell K_a.out 0; simp at c_a_0
  have c_a_1 := blk_cell K_a.out 1; simp at c_a_1
  have l_b : w.heap.size + 1 < w4.heap.size := by omega
  have c_b_0 := blk_cell K_b.out 0; simp at c_b_0
  have c_b_1 := blk_cell K_b.out 1; simp at c_b_1
  go_wp2_with fail
  refine (mul_any _ _ _ _ _).mono ?_; rintro e w5 ⟨rfl, hb⟩
  rw [(mulN_comm an ad bn bd).1, (mulN_comm an ad bn bd).2.1, (mulN_comm an ad bn bd).2.2]
  clear c_a_0 c_a_1 l_a
  clear c_b_0 c_b_1 l_b
  have z5 := hb.size; simp at z5
  replace B := below_after (B.alloc (by first | omega | (simp; done) | (simp; omega)) _) hb (by first | omega | (simp; done) | (simp; omega))
  replace K_a := Lib.hid (blk_below (blk_alloc K_a.out _) hb (by first | omega | (simp; done) | (simp; omega)))
  replace K_b := Lib.hid (blk_below (blk_alloc K_b.out _) hb (by first | omega | (simp; done) | (simp; omega)))
  replace K_c := Lib.hid (blk_below (blk_alloc K_c.out _) hb (by first | omega | (simp; done) | (simp; omega)))
  replace K_ab := Lib.hid (blk_below (blk_alloc K_ab.out _) hb (by first | omega | (simp; done) | (simp; omega)))
  replace K_ba := Lib.hid (blk_below (blk_alloc K_ba.out _) hb (by first | omega | (simp; done) | (simp; omega)))
  have K_p := blk_below (blk_new _ _) hb (by first | omega | (simp; done) | (simp; omega))
  replace K_p := Lib.hid K_p
  clear hb
  have l_ab : w2.heap.size < w5.heap.size := by omega
  have c_ab_0 := blk_cell K_ab.out 0; simp at c_ab_0
  have c_ab_1 := blk_cell K_ab.out 1; simp at c_ab_1
  have l_ba : w3.heap.size < w5.heap.size := by omega
  have c_ba_0 := blk_cell K_ba.out 0; simp at c_ba_0
  have c_ba_1 := blk_cell K_ba.out 1; simp at c_ba_1
  have l_p : w4.heap.size < w5.heap.size := by omega
  have c_p_0 := blk_cell K_p.out 0; simp at c_p_0
  have c_p_1 := blk_cell K_p.out 1; simp at c_p_1
  have l_b : w.heap.size + 1 < w5.heap.size := by omega
  have c_b_0 := blk_cell K_b.out 0; simp at c_b_0
  have c_b_1 := blk_cell K_b.out 1; simp at c_b_1
  have l_c : w.heap.size + 1 + 1 < w5.heap.size := by omega
  have c_c_0 := blk_cell K_c.out 0; simp at c_c_0
  have c_c_1 := blk_cell K_c.out 1; simp at c_c_1
  go_wp2_with fail
  refine (add_any _ _ _ _ _).mono ?_; rintro e w6 ⟨rfl, hb⟩
  clear c_b_0 c_b_1 l_b
  clear c_c_0 c_c_1 l_c
  have z6 := hb.size; simp at z6
  replace B := below_after (B.alloc (by first | omega | (simp; done) | (simp; omega)) _) hb (by first | omega | (simp; done) | (simp; omega))
  replace K_a := Lib.hid (blk_below (blk_alloc K_a.out _) hb (by first | omega | (simp; done) | (simp; omega)))
  replace K_b := Lib.hid (blk_below (blk_alloc K_b.out _) hb (by first | omega | (simp; done) | (simp; omega)))
  replace K_c := Lib.hid (blk_below (blk_alloc K_c.out _) hb (by first | omega | (simp; done) | (simp; omega)))
  replace K_ab := Lib.hid (blk_below (blk_alloc K_ab.out _) hb (by first | omega | (simp; done) | (simp; omega)))
  replace K_ba := Lib.hid (blk_below (blk_alloc K_ba.out _) hb (by first | omega | (simp; done) | (simp; omega)))
  replace K_p := Lib.hid (blk_below (blk_alloc K_p.out _) hb (by first | omega | (simp; done) | (simp; omega)))
  have K_q := blk_below (blk_new _ _) hb (by first | omega | (simp; done) | (simp; omega))
  replace K_q := Lib.hid K_q
  clear hb
  clear c_ab_0 c_ab_1 c_ba_0 c_ba_1 c_p_0 c_p_1 l_ab l_ba l_p
  have l_b : w.heap.size + 1 < w6.heap.size := by omega
  have c_b_0 := blk_cell K_b.out 0; simp at c_b_0
  have c_b_1 := blk_cell K_b.out 1; simp at c_b_1
  have l_c : w.heap.size + 1 + 1 < w6.heap.size := by omega
  have c_c_0 := blk_cell K_c.out 0; simp at c_c_0
  have c_c_1 := blk_cell K_c.out 1; simp at c_c_1
  go_wp2_with fail
  refine (mul_any _ _ _ _ _).mono ?_; rintro e w7 ⟨rfl, hb⟩
  clear c_b_0 c_b_1 l_b
  clear c_c_0 c_c_1 l_c
  have z7 := hb.size; simp at z7
  replace B := below_after (B.alloc (by first | omega | (simp; done) | (simp; omega)) _) hb (by first | omega | (simp; done) | (simp; omega))
  replace K_a := Lib.hid (blk_below (blk_alloc K_a.out _) hb (by first | omega | (simp; done) | (simp; omega)))
  replace K_b := Lib.hid (blk_below (blk_alloc K_b.out _) hb (by first | omega | (simp; done) | (simp; omega)))
  replace K_c := Lib.hid (blk_below (blk_alloc K_c.out _) hb (by first | omega | (simp; done) | (simp; omega)))
  replace K_ab := Lib.hid (blk_below (blk_alloc K_ab.out _) hb (by first | omega | (simp; done) | (simp; omega)))
  replace K_ba := Lib.hid (blk_below (blk_alloc K_ba.out _) hb (by first | omega | (simp; done) | (simp; omega)))
  replace K_p := Lib.hid (blk_below (blk_alloc K_p.out _) hb (by first | omega | (simp; done) | (simp; omega)))
  replace K_q := Lib.hid (blk_below (blk_alloc K_q.out _) hb (by first | omega | (simp; done) | (simp; omega)))
  have K_bc := blk_below (blk_new _ _) hb (by first | omega | (simp; done) | (simp; omega))
  replace K_bc := Lib.hid K_bc
  clear hb
  have l_a : w.heap.size < w7.heap.size := by omega
  have c_a_0 := blk_cell K_a.out 0; simp at c_a_0
  have c_a_1 := blk_cell K_a.out 1; simp at c_a_1
  have l_c : w.heap.size + 1 + 1 < w7.heap.size := by omega
  have c_c_0 := blk_cell K_c.out 0; simp at c_c_0
  have c_c_1 := blk_cell K_c.out 1; simp at c_c_1
  go_wp2_with fail
  refine (mul_any _ _ _ _ _).mono ?_; rintro e w8 ⟨rfl, hb⟩
  clear c_a_0 c_a_1 l_a
  clear c_c_0 c_c_1 l_c
  have z8 := hb.size; simp at z8
  replace B := below_after (B.alloc (by first | omega | (simp; done) | (simp; omega)) _) hb (by first | omega | (simp; done) | (simp; omega))
  replace K_a := Lib.hid (blk_below (blk_alloc K_a.out _) hb (by first | omega | (simp; done) | (simp; omega)))
  replace K_b := Lib.hid (blk_below (blk_alloc K_b.out _) hb (by first | omega | (simp; done) | (simp; omega)))
  replace K_c := Lib.hid (blk_below (blk_alloc K_c.out _) hb (by first | omega | (simp; done) | (simp; omega)))
  replace K_ab := Lib.hid (blk_below (blk_alloc K_ab.out _) hb (by first | omega | (simp; done) | (simp; omega)))
  replace K_ba := Lib.hid (blk_below (blk_alloc K_ba.out _) hb (by first | omega | (simp; done) | (simp; omega)))
  replace K_p := Lib.hid (blk_below (blk_alloc K_p.out _) hb (by first | omega | (simp; done) | (simp; omega)))
  replace K_q := Lib.hid (blk_below (blk_alloc K_q.out _) hb (by first | omega | (simp; done) | (simp; omega)))
  replace K_bc := Lib.hid (blk_below (blk_alloc K_bc.out _) hb (by first | omega | (simp; done) | (simp; omega)))
  have K_r := blk_below (blk_new _ _) hb (by first | omega | (simp; done) | (simp; omega))
  replace K_r := Lib.hid K_r
  clear hb
  go_wp2
  go_ret
  exact ⟨by simp, B.alloc (by first | omega | (simp; done) | (simp; omega)) _⟩

set_option maxRecDepth 100000 in
set_option maxHeartbeats 4000000 in
theorem rationalField_fffnn (an ad bn bd cn cd : Int) (he : addE an ad bn bd ≠ 0) (hi : addE bn bd cn cd ≠ 0) (hg : mulE an ad bn bd ≠ 0) (w : World) :
    Calls Try.prog 5 #[.agg #[.int .i64 an, .int .i64 ad], .agg #[.int .i64 bn, .int .i64 bd], .agg #[.int .i64 cn, .int .i64 cd]] w fun e w' => e = .returned (.bool true) ∧ Below w.heap.size w w' := by
  have te : (addE an ad bn bd == 0) = false := by simpa using he
  have ue : (addE an ad bn bd != 0) = true := by simpa using he
  have HE := Lib.hid he; clear he
  have ti : (addE bn bd cn cd == 0) = false := by simpa using hi
  have ui : (addE bn bd cn cd != 0) = true := by simpa using hi
  have HI := Lib.hid hi; clear hi
  have tg : (mulE an ad bn bd == 0) = false := by simpa using hg
  have ug : (mulE an ad bn bd != 0) = true := by simpa using hg
  have HG := Lib.hid hg; clear hg
  have B := Below.refl w.heap.size w
  go_enter Try.func5, Try.ntmps5
  go_wp2_with fail
  refine (sane_any _).mono ?_; rintro e w1 ⟨rfl, hb⟩
  have z1 := hb.size; simp at z1
  replace B := below_after (((B.alloc (by first | omega | (simp; done) | (simp; omega)) _).alloc (by first | omega | (simp; done) | (simp; omega)) _).alloc (by first | omega | (simp; done) | (simp; omega)) _) hb (by first | omega | (simp; done) | (simp; omega))
  have K_a := blk_below (blk_alloc (blk_alloc (blk_new _ _) _) _) hb (by first | omega | (simp; done) | (simp; omega))
  replace K_a := Lib.hid K_a
  have K_b := blk_below (blk_alloc (blk_new _ _) _) hb (by first | omega | (simp; done) | (simp; omega))
  rw [World.size_alloc] at K_b
  replace K_b := Lib.hid K_b
  have K_c := blk_below (blk_new _ _) hb (by first | omega | (simp; done) | (simp; omega))
  rw [World.size_alloc, World.size_alloc] at K_c
  replace K_c := Lib.hid K_c
  clear hb
  have c_a_0 := blk_cell K_a.out 0; simp at c_a_0
  have c_a_1 := blk_cell K_a.out 1; simp at c_a_1
  have c_b_0 := blk_cell K_b.out 0; simp at c_b_0
  have c_b_1 := blk_cell K_b.out 1; simp at c_b_1
  go_wp2_with fail
  refine (add_any _ _ _ _ _).mono ?_; rintro e w2 ⟨rfl, hb⟩
  clear c_a_0 c_a_1
  clear c_b_0 c_b_1
  have z2 := hb.size
  replace B := below_after B hb (by first | omega | (simp; done) | (simp; omega))
  replace K_a := Lib.hid (blk_below K_a.out hb (by first | omega | (simp; done) | (simp; omega)))
  replace K_b := Lib.hid (blk_below K_b.out hb (by first | omega | (simp; done) | (simp; omega)))
  replace K_c := Lib.hid (blk_below K_c.out hb (by first | omega | (simp; done) | (simp; omega)))
  clear hb
  have l_a : w.heap.size < w2.heap.size := by omega
  have c_a_0 := blk_cell K_a.out 0; simp at c_a_0
  have c_a_1 := blk_cell K_a.out 1; simp at c_a_1
  have l_b : w.heap.size + 1 < w2.heap.size := by omega
  have c_b_0 := blk_cell K_b.out 0; simp at c_b_0
  have c_b_1 := blk_cell K_b.out 1; simp at c_b_1
  go_wp2_with fail
  refine (add_any _ _ _ _ _).mono ?_; rintro e w3 ⟨rfl, hb⟩
  rw [(addN_comm an ad bn bd).1, (addN_comm an ad bn bd).2.1, (addN_comm an ad bn bd).2.2]
  clear c_a_0 c_a_1 l_a
  clear c_b_0 c_b_1 l_b
  have z3 := hb.size; simp at z3
  replace B := below_after (B.alloc (by first | omega | (simp; done) | (simp; omega)) _) hb (by first | omega | (simp; done) | (simp; omega))
  replace K_a := Lib.hid (blk_below (blk_alloc K_a.out _) hb (by first | omega | (simp; done) | (simp; omega)))
  replace K_b := Lib.hid (blk_below (blk_alloc K_b.out _) hb (by first | omega | (simp; done) | (simp; omega)))
  replace K_c := Lib.hid (blk_below (blk_alloc K_c.out _) hb (by first | omega | (simp; done) | (simp; omega)))
  have K_ab := blk_below (blk_new _ _) hb (by first | omega | (simp; done) | (simp; omega))
  replace K_ab := Lib.hid K_ab
  clear hb
  have l_a : w.heap.size < w3.heap.size := by omega
  have c_a_0 := blk_cell K_a.out 0; simp at c_a_0
  have c_a_1 := blk_cell K_a.out 1; simp at c_a_1
  have l_b : w.heap.size + 1 < w3.heap.size := by omega
  have c_b_0 := blk_cell K_b.out 0; simp at c_b_0
  have c_b_1 := blk_cell K_b.out 1; simp at c_b_1
  go_wp2_with fail
  refine (mul_any _ _ _ _ _).mono ?_; rintro e w4 ⟨rfl, hb⟩
  clear c_a_0 c_a_1 l_a
  clear c_b_0 c_b_1 l_b
  have z4 := hb.size; simp at z4
  replace B := below_after (B.alloc (by first | omega | (simp; done) | (simp; omega)) _) hb (by first | omega | (simp; done) | (simp; omega))
  replace K_a := Lib.hid (blk_below (blk_alloc K_a.out _) hb (by first | omega | (simp; done) | (simp; omega)))
  replace K_b := Lib.hid (blk_below (blk_alloc K_b.out _) hb (by first | omega | (simp; done) | (simp; omega)))
  replace K_c := Lib.hid (blk_below (blk_alloc K_c.out _) hb (by first | omega | (simp; done) | (simp; omega)))
  replace K_ab := Lib.hid (blk_below (blk_alloc K_ab.out _) hb (by first | omega | (simp; done) | (simp; omega)))
  have K_ba := blk_below (blk_new _ _) hb (by first | omega | (simp; done) | (simp; omega))
  replace K_ba := Lib.hid K_ba
  clear hb
  have l_a : w.heap.size < w4.heap.size := by omega
  have c_a_0 := blk_cell K_a.out 0; simp at c_a_0
  have c_a_1 := blk_cell K_a.out 1; simp at c_a_1
  have l_b : w.heap.size + 1 < w4.heap.size := by omega
  have c_b_0 := blk_cell K_b.out 0; simp at c_b_0
  have c_b_1 := blk_cell K_b.out 1; simp at c_b_1
  go_wp2_with fail
  refine (mul_any _ _ _ _ _).mono ?_; rintro e w5 ⟨rfl, hb⟩
  rw [(mulN_comm an ad bn bd).1, (mulN_comm an ad bn bd).2.1, (mulN_comm an ad bn bd).2.2]
  clear c_a_0 c_a_1 l_a
  clear c_b_0 c_b_1 l_b
  have z5 := hb.size; simp at z5
  replace B := below_after (B.alloc (by first | omega | (simp; done) | (simp; omega)) _) hb (by first | omega | (simp; done) | (simp; omega))
  replace K_a := Lib.hid (blk_below (blk_alloc K_a.out _) hb (by first | omega | (simp; done) | (simp; omega)))
  replace K_b := Lib.hid (blk_below (blk_alloc K_b.out _) hb (by first | omega | (simp; done) | (simp; omega)))
  replace K_c := Lib.hid (blk_below (blk_alloc K_c.out _) hb (by first | omega | (simp; done) | (simp; omega)))
  replace K_ab := Lib.hid (blk_below (blk_alloc K_ab.out _) hb (by first | omega | (simp; done) | (simp; omega)))
  replace K_ba := Lib.hid (blk_below (blk_alloc K_ba.out _) hb (by first | omega | (simp; done) | (simp; omega)))
  have K_p := blk_below (blk_new _ _) hb (by first | omega | (simp; done) | (simp; omega))
  replace K_p := Lib.hid K_p
  clear hb
  have l_ab : w2.heap.size < w5.heap.size := by omega
  have c_ab_0 := blk_cell K_ab.out 0; simp at c_ab_0
  have c_ab_1 := blk_cell K_ab.out 1; simp at c_ab_1
  have l_ba : w3.heap.size < w5.heap.size := by omega
  have c_ba_0 := blk_cell K_ba.out 0; simp at c_ba_0
  have c_ba_1 := blk_cell K_ba.out 1; simp at c_ba_1
  have l_p : w4.heap.size < w5.heap.size := by omega
  have c_p_0 := blk_cell K_p.out 0; simp at c_p_0
  have c_p_1 := blk_cell K_p.out 1; simp at c_p_1
  have l_b : w.heap.size + 1 < w5.heap.size := by omega
  have c_b_0 := blk_cell K_b.out 0; simp at c_b_0
  have c_b_1 := blk_cell K_b.out 1; simp at c_b_1
  have l_c : w.heap.size + 1 + 1 < w5.heap.size := by omega
  have c_c_0 := blk_cell K_c.out 0; simp at c_c_0
  have c_c_1 := blk_cell K_c.out 1; simp at c_c_1
  go_wp2_with fail
  refine (add_any _ _ _ _ _).mono ?_; rintro e w6 ⟨rfl, hb⟩
  clear c_b_0 c_b_1 l_b
  clear c_c_0 c_c_1 l_c
  have z6 := hb.size; simp at z6
  replace B := below_after (B.alloc (by first | omega | (simp; done) | (simp; omega)) _) hb (by first | omega | (simp; done) | (simp; omega))
  replace K_a := Lib.hid (blk_below (blk_alloc K_a.out _) hb (by first | omega | (simp; done) | (simp; omega)))
  replace K_b := Lib.hid (blk_below (blk_alloc K_b.out _) hb (by first | omega | (simp; done) | (simp; omega)))
  replace K_c := Lib.hid (blk_below (blk_alloc K_c.out _) hb (by first | omega | (simp; done) | (simp; omega)))
  replace K_ab := Lib.hid (blk_below (blk_alloc K_ab.out _) hb (by first | omega | (simp; done) | (simp; omega)))
  replace K_ba := Lib.hid (blk_below (blk_alloc K_ba.out _) hb (by first | omega | (simp; done) | (simp; omega)))
  replace K_p := Lib.hid (blk_below (blk_alloc K_p.out _) hb (by first | omega | (simp; done) | (simp; omega)))
  have K_q := blk_below (blk_new _ _) hb (by first | omega | (simp; done) | (simp; omega))
  replace K_q := Lib.hid K_q
  clear hb
  clear c_ab_0 c_ab_1 c_ba_0 c_ba_1 c_p_0 c_p_1 l_ab l_ba l_p
  have l_b : w.heap.size + 1 < w6.heap.size := by omega
  have c_b_0 := blk_cell K_b.out 0; simp at c_b_0
  have c_b_1 := blk_cell K_b.out 1; simp at c_b_1
  have l_c : w.heap.size + 1 + 1 < w6.heap.size := by omega
  have c_c_0 := blk_cell K_c.out 0; simp at c_c_0
  have c_c_1 := blk_cell K_c.out 1; simp at c_c_1
  go_wp2_with fail
  refine (mul_any _ _ _ _ _).mono ?_; rintro e w7 ⟨rfl, hb⟩
  clear c_b_0 c_b_1 l_b
  clear c_c_0 c_c_1 l_c
  have z7 := hb.size; simp at z7
  replace B := below_after (B.alloc (by first | omega | (simp; done) | (simp; omega)) _) hb (by first | omega | (simp; done) | (simp; omega))
  replace K_a := Lib.hid (blk_below (blk_alloc K_a.out _) hb (by first | omega | (simp; done) | (simp; omega)))
  replace K_b := Lib.hid (blk_below (blk_alloc K_b.out _) hb (by first | omega | (simp; done) | (simp; omega)))
  replace K_c := Lib.hid (blk_below (blk_alloc K_c.out _) hb (by first | omega | (simp; done) | (simp; omega)))
  replace K_ab := Lib.hid (blk_below (blk_alloc K_ab.out _) hb (by first | omega | (simp; done) | (simp; omega)))
  replace K_ba := Lib.hid (blk_below (blk_alloc K_ba.out _) hb (by first | omega | (simp; done) | (simp; omega)))
  replace K_p := Lib.hid (blk_below (blk_alloc K_p.out _) hb (by first | omega | (simp; done) | (simp; omega)))
  replace K_q := Lib.hid (blk_below (blk_alloc K_q.out _) hb (by first | omega | (simp; done) | (simp; omega)))
  have K_bc := blk_below (blk_new _ _) hb (by first | omega | (simp; done) | (simp; omega))
  replace K_bc := Lib.hid K_bc
  clear hb
  have l_a : w.heap.size < w7.heap.size := by omega
  have c_a_0 := blk_cell K_a.out 0; simp at c_a_0
  have c_a_1 := blk_cell K_a.out 1; simp at c_a_1
  have l_c : w.heap.size + 1 + 1 < w7.heap.size := by omega
  have c_c_0 := blk_cell K_c.out 0; simp at c_c_0
  have c_c_1 := blk_cell K_c.out 1; simp at c_c_1
  go_wp2_with fail
  refine (mul_any _ _ _ _ _).mono ?_; rintro e w8 ⟨rfl, hb⟩
  clear c_a_0 c_a_1 l_a
  clear c_c_0 c_c_1 l_c
  have z8 := hb.size; simp at z8
  replace B := below_after (B.alloc (by first | omega | (simp; done) | (simp; omega)) _) hb (by first | omega | (simp; done) | (simp; omega))
  replace K_a := Lib.hid (blk_below (blk_alloc K_a.out _) hb (by first | omega | (simp; done) | (simp; omega)))
  replace K_b := Lib.hid (blk_below (blk_alloc K_b.out _) hb (by first | omega | (simp; done) | (simp; omega)))
  replace K_c := Lib.hid (blk_below (blk_alloc K_c.out _) hb (by first | omega | (simp; done) | (simp; omega)))
  replace K_ab := Lib.hid (blk_below (blk_alloc K_ab.out _) hb (by first | omega | (simp; done) | (simp; omega)))
  replace K_ba := Lib.hid (blk_below (blk_alloc K_ba.out _) hb (by first | omega | (simp; done) | (simp; omega)))
  replace K_p := Lib.hid (blk_below (blk_alloc K_p.out _) hb (by first | omega | (simp; done) | (simp; omega)))
  replace K_q := Lib.hid (blk_below (blk_alloc K_q.out _) hb (by first | omega | (simp; done) | (simp; omega)))
  replace K_bc := Lib.hid (blk_below (blk_alloc K_bc.out _) hb (by first | omega | (simp; done) | (simp; omega)))
  have K_r := blk_below (blk_new _ _) hb (by first | omega | (simp; done) | (simp; omega))
  replace K_r := Lib.hid K_r
  clear hb
  go_wp2
  go_ret
  exact ⟨by simp, B.alloc (by first | omega | (simp; done) | (simp; omega)) _⟩
end Go.Proofs.Ytaaoekddhgjckaa
