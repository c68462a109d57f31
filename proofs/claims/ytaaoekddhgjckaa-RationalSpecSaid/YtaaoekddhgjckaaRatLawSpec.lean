/- The walks of RationalSpec (layer 7). -/
import Derived.Test.YtaaoekddhgjckaaRatSane
import Derived.Test.YtaaoekddhgjckaaRatLawMath
namespace Go.Proofs.Ytaaoekddhgjckaa
open Go.ChangeShapes Go.WideShapes Go.ChangeAt Go.RowKit

set_option maxRecDepth 100000 in
set_option maxHeartbeats 2000000 in
theorem rationalSpec_walk (an ad bn bd : Int) (w : World) :
    Calls Try.prog 4 #[.agg #[.int .i64 an, .int .i64 ad], .agg #[.int .i64 bn, .int .i64 bd]] w fun e w' => e = .returned (.bool true) ∧ Below w.heap.size w w' := by
  have B := Below.refl w.heap.size w
  go_enter Try.func4, Try.ntmps4
  go_wp2_with fail
  refine (sane_any _).mono ?_; rintro e w1 ⟨rfl, hb⟩
  have z1 := hb.size; simp at z1
  replace B := below_after ((B.alloc (by first | omega | (simp; done) | (simp; omega)) _).alloc (by first | omega | (simp; done) | (simp; omega)) _) hb (by first | omega | (simp; done) | (simp; omega))
  have K_a := blk_below (blk_alloc (blk_new _ _) _) hb (by first | omega | (simp; done) | (simp; omega))
  replace K_a := Lib.hid K_a
  have K_b := blk_below (blk_new _ _) hb (by first | omega | (simp; done) | (simp; omega))
  rw [World.size_alloc] at K_b
  replace K_b := Lib.hid K_b
  clear hb
  have c_a_0 := blk_cell K_a.out 0; simp at c_a_0
  have c_a_1 := blk_cell K_a.out 1; simp at c_a_1
  have c_b_0 := blk_cell K_b.out 0; simp at c_b_0
  have c_b_1 := blk_cell K_b.out 1; simp at c_b_1
  go_wp2_with fail
  refine (add_any _ _ _ _ _).mono ?_; rintro e w2 ⟨rfl, hb⟩
  clear c_a_0 c_a_1
  clear c_b_0 c_b_1
  have z2 := hb.size
  replace B := below_after B hb (by first | omega | (simp; done) | (simp; omega))
  replace K_a := Lib.hid (blk_below K_a.out hb (by first | omega | (simp; done) | (simp; omega)))
  replace K_b := Lib.hid (blk_below K_b.out hb (by first | omega | (simp; done) | (simp; omega)))
  clear hb
  have l_a : w.heap.size < w2.heap.size := by omega
  have c_a_0 := blk_cell K_a.out 0; simp at c_a_0
  have c_a_1 := blk_cell K_a.out 1; simp at c_a_1
  have l_b : w.heap.size + 1 < w2.heap.size := by omega
  have c_b_0 := blk_cell K_b.out 0; simp at c_b_0
  have c_b_1 := blk_cell K_b.out 1; simp at c_b_1
  go_wp2_with fail
  refine (radd_any _ _ _ _ _).mono ?_; rintro e w3 ⟨rfl, hb⟩
  clear c_a_0 c_a_1 l_a
  clear c_b_0 c_b_1 l_b
  have z3 := hb.size; simp at z3
  replace B := below_after (B.alloc (by first | omega | (simp; done) | (simp; omega)) _) hb (by first | omega | (simp; done) | (simp; omega))
  replace K_a := Lib.hid (blk_below (blk_alloc K_a.out _) hb (by first | omega | (simp; done) | (simp; omega)))
  replace K_b := Lib.hid (blk_below (blk_alloc K_b.out _) hb (by first | omega | (simp; done) | (simp; omega)))
  have K_p := blk_below (blk_new _ _) hb (by first | omega | (simp; done) | (simp; omega))
  replace K_p := Lib.hid K_p
  clear hb
  have l_a : w.heap.size < w3.heap.size := by omega
  have c_a_0 := blk_cell K_a.out 0; simp at c_a_0
  have c_a_1 := blk_cell K_a.out 1; simp at c_a_1
  have l_b : w.heap.size + 1 < w3.heap.size := by omega
  have c_b_0 := blk_cell K_b.out 0; simp at c_b_0
  have c_b_1 := blk_cell K_b.out 1; simp at c_b_1
  go_wp2_with fail
  refine (mul_any _ _ _ _ _).mono ?_; rintro e w4 ⟨rfl, hb⟩
  clear c_a_0 c_a_1 l_a
  clear c_b_0 c_b_1 l_b
  have z4 := hb.size; simp at z4
  replace B := below_after (B.alloc (by first | omega | (simp; done) | (simp; omega)) _) hb (by first | omega | (simp; done) | (simp; omega))
  replace K_a := Lib.hid (blk_below (blk_alloc K_a.out _) hb (by first | omega | (simp; done) | (simp; omega)))
  replace K_b := Lib.hid (blk_below (blk_alloc K_b.out _) hb (by first | omega | (simp; done) | (simp; omega)))
  replace K_p := Lib.hid (blk_below (blk_alloc K_p.out _) hb (by first | omega | (simp; done) | (simp; omega)))
  have K_q := blk_below (blk_new _ _) hb (by first | omega | (simp; done) | (simp; omega))
  replace K_q := Lib.hid K_q
  clear hb
  have l_a : w.heap.size < w4.heap.size := by omega
  have c_a_0 := blk_cell K_a.out 0; simp at c_a_0
  have c_a_1 := blk_cell K_a.out 1; simp at c_a_1
  have l_b : w.heap.size + 1 < w4.heap.size := by omega
  have c_b_0 := blk_cell K_b.out 0; simp at c_b_0
  have c_b_1 := blk_cell K_b.out 1; simp at c_b_1
  go_wp2_with fail
  refine (rmul_any _ _ _ _ _).mono ?_; rintro e w5 ⟨rfl, hb⟩
  clear c_a_0 c_a_1 l_a
  clear c_b_0 c_b_1 l_b
  have z5 := hb.size; simp at z5
  replace B := below_after (B.alloc (by first | omega | (simp; done) | (simp; omega)) _) hb (by first | omega | (simp; done) | (simp; omega))
  replace K_a := Lib.hid (blk_below (blk_alloc K_a.out _) hb (by first | omega | (simp; done) | (simp; omega)))
  replace K_b := Lib.hid (blk_below (blk_alloc K_b.out _) hb (by first | omega | (simp; done) | (simp; omega)))
  replace K_p := Lib.hid (blk_below (blk_alloc K_p.out _) hb (by first | omega | (simp; done) | (simp; omega)))
  replace K_q := Lib.hid (blk_below (blk_alloc K_q.out _) hb (by first | omega | (simp; done) | (simp; omega)))
  have K_r := blk_below (blk_new _ _) hb (by first | omega | (simp; done) | (simp; omega))
  replace K_r := Lib.hid K_r
  clear hb
  have l_a : w.heap.size < w5.heap.size := by omega
  have c_a_0 := blk_cell K_a.out 0; simp at c_a_0
  have c_a_1 := blk_cell K_a.out 1; simp at c_a_1
  go_wp2_with fail
  refine (inv_any _ _ _).mono ?_; rintro e w6 ⟨rfl, hb⟩
  clear c_a_0 c_a_1 l_a
  have z6 := hb.size; simp at z6
  replace B := below_after (B.alloc (by first | omega | (simp; done) | (simp; omega)) _) hb (by first | omega | (simp; done) | (simp; omega))
  replace K_a := Lib.hid (blk_below (blk_alloc K_a.out _) hb (by first | omega | (simp; done) | (simp; omega)))
  replace K_b := Lib.hid (blk_below (blk_alloc K_b.out _) hb (by first | omega | (simp; done) | (simp; omega)))
  replace K_p := Lib.hid (blk_below (blk_alloc K_p.out _) hb (by first | omega | (simp; done) | (simp; omega)))
  replace K_q := Lib.hid (blk_below (blk_alloc K_q.out _) hb (by first | omega | (simp; done) | (simp; omega)))
  replace K_r := Lib.hid (blk_below (blk_alloc K_r.out _) hb (by first | omega | (simp; done) | (simp; omega)))
  have K_s := blk_below (blk_new _ _) hb (by first | omega | (simp; done) | (simp; omega))
  replace K_s := Lib.hid K_s
  clear hb
  have l_a : w.heap.size < w6.heap.size := by omega
  have c_a_0 := blk_cell K_a.out 0; simp at c_a_0
  have c_a_1 := blk_cell K_a.out 1; simp at c_a_1
  go_wp2_with fail
  refine (rinv_any _ _ _).mono ?_; rintro e w7 ⟨rfl, hb⟩
  clear c_a_0 c_a_1 l_a
  have z7 := hb.size; simp at z7
  replace B := below_after (B.alloc (by first | omega | (simp; done) | (simp; omega)) _) hb (by first | omega | (simp; done) | (simp; omega))
  replace K_a := Lib.hid (blk_below (blk_alloc K_a.out _) hb (by first | omega | (simp; done) | (simp; omega)))
  replace K_b := Lib.hid (blk_below (blk_alloc K_b.out _) hb (by first | omega | (simp; done) | (simp; omega)))
  replace K_p := Lib.hid (blk_below (blk_alloc K_p.out _) hb (by first | omega | (simp; done) | (simp; omega)))
  replace K_q := Lib.hid (blk_below (blk_alloc K_q.out _) hb (by first | omega | (simp; done) | (simp; omega)))
  replace K_r := Lib.hid (blk_below (blk_alloc K_r.out _) hb (by first | omega | (simp; done) | (simp; omega)))
  replace K_s := Lib.hid (blk_below (blk_alloc K_s.out _) hb (by first | omega | (simp; done) | (simp; omega)))
  have K_t := blk_below (blk_new _ _) hb (by first | omega | (simp; done) | (simp; omega))
  replace K_t := Lib.hid K_t
  clear hb
  have l_a : w.heap.size < w7.heap.size := by omega
  have c_a_0 := blk_cell K_a.out 0; simp at c_a_0
  have c_a_1 := blk_cell K_a.out 1; simp at c_a_1
  have l_b : w.heap.size + 1 < w7.heap.size := by omega
  have c_b_0 := blk_cell K_b.out 0; simp at c_b_0
  have c_b_1 := blk_cell K_b.out 1; simp at c_b_1
  go_wp2_with fail
  refine (less_any _ _ _ _ _).mono ?_; rintro e w8 ⟨rfl, hb⟩
  clear c_a_0 c_a_1 l_a
  clear c_b_0 c_b_1 l_b
  have z8 := hb.size; simp at z8
  replace B := below_after (B.alloc (by first | omega | (simp; done) | (simp; omega)) _) hb (by first | omega | (simp; done) | (simp; omega))
  replace K_a := Lib.hid (blk_below (blk_alloc K_a.out _) hb (by first | omega | (simp; done) | (simp; omega)))
  replace K_b := Lib.hid (blk_below (blk_alloc K_b.out _) hb (by first | omega | (simp; done) | (simp; omega)))
  replace K_p := Lib.hid (blk_below (blk_alloc K_p.out _) hb (by first | omega | (simp; done) | (simp; omega)))
  replace K_q := Lib.hid (blk_below (blk_alloc K_q.out _) hb (by first | omega | (simp; done) | (simp; omega)))
  replace K_r := Lib.hid (blk_below (blk_alloc K_r.out _) hb (by first | omega | (simp; done) | (simp; omega)))
  replace K_s := Lib.hid (blk_below (blk_alloc K_s.out _) hb (by first | omega | (simp; done) | (simp; omega)))
  replace K_t := Lib.hid (blk_below (blk_alloc K_t.out _) hb (by first | omega | (simp; done) | (simp; omega)))
  have K_u := blk_below (blk_new _ _) hb (by first | omega | (simp; done) | (simp; omega))
  replace K_u := Lib.hid K_u
  clear hb
  have c_a_0 := blk_cell K_a.out 0; simp at c_a_0
  have c_a_1 := blk_cell K_a.out 1; simp at c_a_1
  have c_b_0 := blk_cell K_b.out 0; simp at c_b_0
  have c_b_1 := blk_cell K_b.out 1; simp at c_b_1
  go_wp2_with fail
  refine (rless_any _ _ _ _ _).mono ?_; rintro e w9 ⟨rfl, hb⟩
  clear c_a_0 c_a_1
  clear c_b_0 c_b_1
  have z9 := hb.size
  replace B := below_after B hb (by first | omega | (simp; done) | (simp; omega))
  replace K_a := Lib.hid (blk_below K_a.out hb (by first | omega | (simp; done) | (simp; omega)))
  replace K_b := Lib.hid (blk_below K_b.out hb (by first | omega | (simp; done) | (simp; omega)))
  replace K_p := Lib.hid (blk_below K_p.out hb (by first | omega | (simp; done) | (simp; omega)))
  replace K_q := Lib.hid (blk_below K_q.out hb (by first | omega | (simp; done) | (simp; omega)))
  replace K_r := Lib.hid (blk_below K_r.out hb (by first | omega | (simp; done) | (simp; omega)))
  replace K_s := Lib.hid (blk_below K_s.out hb (by first | omega | (simp; done) | (simp; omega)))
  replace K_t := Lib.hid (blk_below K_t.out hb (by first | omega | (simp; done) | (simp; omega)))
  replace K_u := Lib.hid (blk_below K_u.out hb (by first | omega | (simp; done) | (simp; omega)))
  clear hb
  have c_a_0 := blk_cell K_a.out 0; simp at c_a_0
  have c_a_1 := blk_cell K_a.out 1; simp at c_a_1
  go_wp2_with fail
  refine (floor_any _ _ _).mono ?_; rintro e w10 ⟨rfl, hb⟩
  clear c_a_0 c_a_1
  have z10 := hb.size
  replace B := below_after B hb (by first | omega | (simp; done) | (simp; omega))
  replace K_a := Lib.hid (blk_below K_a.out hb (by first | omega | (simp; done) | (simp; omega)))
  replace K_b := Lib.hid (blk_below K_b.out hb (by first | omega | (simp; done) | (simp; omega)))
  replace K_p := Lib.hid (blk_below K_p.out hb (by first | omega | (simp; done) | (simp; omega)))
  replace K_q := Lib.hid (blk_below K_q.out hb (by first | omega | (simp; done) | (simp; omega)))
  replace K_r := Lib.hid (blk_below K_r.out hb (by first | omega | (simp; done) | (simp; omega)))
  replace K_s := Lib.hid (blk_below K_s.out hb (by first | omega | (simp; done) | (simp; omega)))
  replace K_t := Lib.hid (blk_below K_t.out hb (by first | omega | (simp; done) | (simp; omega)))
  replace K_u := Lib.hid (blk_below K_u.out hb (by first | omega | (simp; done) | (simp; omega)))
  clear hb
  have c_a_0 := blk_cell K_a.out 0; simp at c_a_0
  have c_a_1 := blk_cell K_a.out 1; simp at c_a_1
  go_wp2_with fail
  refine (rfloor_any _ _ _).mono ?_; rintro e w11 ⟨rfl, hb⟩
  clear c_a_0 c_a_1
  have z11 := hb.size
  replace B := below_after B hb (by first | omega | (simp; done) | (simp; omega))
  replace K_a := Lib.hid (blk_below K_a.out hb (by first | omega | (simp; done) | (simp; omega)))
  replace K_b := Lib.hid (blk_below K_b.out hb (by first | omega | (simp; done) | (simp; omega)))
  replace K_p := Lib.hid (blk_below K_p.out hb (by first | omega | (simp; done) | (simp; omega)))
  replace K_q := Lib.hid (blk_below K_q.out hb (by first | omega | (simp; done) | (simp; omega)))
  replace K_r := Lib.hid (blk_below K_r.out hb (by first | omega | (simp; done) | (simp; omega)))
  replace K_s := Lib.hid (blk_below K_s.out hb (by first | omega | (simp; done) | (simp; omega)))
  replace K_t := Lib.hid (blk_below K_t.out hb (by first | omega | (simp; done) | (simp; omega)))
  replace K_u := Lib.hid (blk_below K_u.out hb (by first | omega | (simp; done) | (simp; omega)))
  clear hb
  have c_p_0 := blk_cell K_p.out 0; simp at c_p_0
  have c_p_1 := blk_cell K_p.out 1; simp at c_p_1
  have c_q_0 := blk_cell K_q.out 0; simp at c_q_0
  have c_q_1 := blk_cell K_q.out 1; simp at c_q_1
  have c_r_0 := blk_cell K_r.out 0; simp at c_r_0
  have c_r_1 := blk_cell K_r.out 1; simp at c_r_1
  have c_s_0 := blk_cell K_s.out 0; simp at c_s_0
  have c_s_1 := blk_cell K_s.out 1; simp at c_s_1
  have c_t_0 := blk_cell K_t.out 0; simp at c_t_0
  have c_t_1 := blk_cell K_t.out 1; simp at c_t_1
  have c_u_0 := blk_cell K_u.out 0; simp at c_u_0
  have c_u_1 := blk_cell K_u.out 1; simp at c_u_1
  go_wp2
  go_ret
  exact ⟨by simp, B⟩
end Go.Proofs.Ytaaoekddhgjckaa
