/- The walks of RationalFloor (layer 7). -/
import Derived.Test.YtaaoekddhgjckaaRatSane
import Derived.Test.YtaaoekddhgjckaaRatLawMath
namespace Go.Proofs.Ytaaoekddhgjckaa
open Go.ChangeShapes Go.WideShapes Go.ChangeAt Go.RowKit

theorem floor_facts {n d : Int} (h : Valid n d) : -2147483647 ≤ n / d ∧ n / d ≤ 2147483647 ∧ n / d * d ≤ n ∧ n < (n / d + 1) * d ∧ -4611686018427387904 ≤ n / d * d ∧ n / d * d ≤ 4611686018427387904 ∧ -4611686018427387904 ≤ (n / d + 1) * d ∧ (n / d + 1) * d ≤ 4611686018427387904 := by
  obtain ⟨h1, h2, h3, h4, _⟩ := h
  obtain ⟨a, b⟩ := ediv_in (b := d) (by omega) h3 h4 (by omega) (by omega)
  have e := Int.ediv_mul_le n (b := d) (by omega)
  have f := Int.lt_ediv_add_one_mul_self n (b := d) (by omega)
  rw [Int.add_mul] at f ⊢
  exact ⟨a, b, e, f, by omega, by omega, by omega, by omega⟩
theorem frac_same {S s X a : Int} (hs : 0 < s) (ha : 0 < a) (e : S * a = X * s) : S / s = X / a := by
  have e1 : S / s = S * a / (s * a) := (Int.mul_ediv_mul_of_pos_left S s ha).symm
  have e2 : X / a = X * s / (a * s) := (Int.mul_ediv_mul_of_pos_left X a hs).symm
  rw [e1, e2, e, Int.mul_comm s a]
theorem floor_add {an ad m : Int} (hv : Valid an ad) (hg : addGood an ad m 1) : ∃ sn sd, addN an ad m 1 = sn ∧ addD an ad m 1 = sd ∧ addE an ad m 1 = 0 ∧ floorV sn sd = an / ad + m ∧ ratOk sn sd = 0 := by
  obtain ⟨_, _, vs, hs⟩ := add_good hg
  refine ⟨_, _, rfl, rfl, if_pos hg, ?_, ok_yes vs⟩
  have hd := pos_of_valid hv
  have hd2 := pos_of_valid vs
  unfold floorV
  rw [if_pos vs]
  rw [Int.mul_one, Int.mul_one] at hs
  rw [frac_same hd2 hd hs, Int.add_mul_ediv_right _ _ (by omega)]

set_option maxRecDepth 100000 in
set_option maxHeartbeats 2000000 in
theorem rationalFloor_bad (an ad m : Int) (hv : ¬ Valid an ad) (w : World) :
    Calls Try.prog 9 #[.agg #[.int .i64 an, .int .i64 ad], .int .i32 m] w fun e w' => e = .returned (.bool true) ∧ Below w.heap.size w w' := by
  have f1 : floorV an ad = 0 := if_neg hv
  have f2 := ok_no hv
  clear hv
  have B := Below.refl w.heap.size w
  go_enter Try.func9, Try.ntmps9
  go_wp2_with fail
  refine (sane_any _).mono ?_; rintro e w1 ⟨rfl, hb⟩
  have z1 := hb.size; simp at z1
  replace B := below_after (B.alloc (by first | omega | (simp; done) | (simp; omega)) _) hb (by first | omega | (simp; done) | (simp; omega))
  have K_a := blk_below (blk_new _ _) hb (by first | omega | (simp; done) | (simp; omega))
  replace K_a := Lib.hid K_a
  clear hb
  have c_a_0 := blk_cell K_a.out 0; simp at c_a_0
  have c_a_1 := blk_cell K_a.out 1; simp at c_a_1
  go_wp2_with fail
  refine (floor_any _ _ _).mono ?_; rintro e w2 ⟨rfl, hb⟩
  rw [f1, f2]
  clear c_a_0 c_a_1
  have z2 := hb.size
  replace B := below_after B hb (by first | omega | (simp; done) | (simp; omega))
  replace K_a := Lib.hid (blk_below K_a.out hb (by first | omega | (simp; done) | (simp; omega)))
  clear hb
  go_wp2
  go_ret
  exact ⟨by simp, B⟩

set_option maxRecDepth 100000 in
set_option maxHeartbeats 2000000 in
theorem rationalFloor_min (an ad m : Int) (hv : Valid an ad) (hm : m = -2147483648) (w : World) :
    Calls Try.prog 9 #[.agg #[.int .i64 an, .int .i64 ad], .int .i32 m] w fun e w' => e = .returned (.bool true) ∧ Below w.heap.size w w' := by
  have f2 := ok_yes hv
  have fv : floorV an ad = an / ad := if_pos hv
  obtain ⟨q1, q2, q3, q4, q5, q6, q7, q8⟩ := floor_facts hv
  rw [← fv] at q1 q2 q3 q4 q5 q6 q7 q8
  subst hm
  clear hv fv
  have B := Below.refl w.heap.size w
  go_enter Try.func9, Try.ntmps9
  go_wp2_with fail
  refine (sane_any _).mono ?_; rintro e w1 ⟨rfl, hb⟩
  have z1 := hb.size; simp at z1
  replace B := below_after (B.alloc (by first | omega | (simp; done) | (simp; omega)) _) hb (by first | omega | (simp; done) | (simp; omega))
  have K_a := blk_below (blk_new _ _) hb (by first | omega | (simp; done) | (simp; omega))
  replace K_a := Lib.hid K_a
  clear hb
  have c_a_0 := blk_cell K_a.out 0; simp at c_a_0
  have c_a_1 := blk_cell K_a.out 1; simp at c_a_1
  go_wp2_with fail
  refine (floor_any _ _ _).mono ?_; rintro e w2 ⟨rfl, hb⟩
  rw [f2]
  clear c_a_0 c_a_1
  have z2 := hb.size
  replace B := below_after B hb (by first | omega | (simp; done) | (simp; omega))
  replace K_a := Lib.hid (blk_below K_a.out hb (by first | omega | (simp; done) | (simp; omega)))
  clear hb
  have c_a_0 := blk_cell K_a.out 0; simp at c_a_0
  have c_a_1 := blk_cell K_a.out 1; simp at c_a_1
  go_wp2
  go_ret
  exact ⟨by simp, B⟩

set_option maxRecDepth 100000 in
set_option maxHeartbeats 2000000 in
theorem rationalFloor_badsum (an ad m : Int) (hv : Valid an ad) (m1 : -2147483648 < m) (m2 : m ≤ 2147483647) (hg : ¬ addGood an ad m 1) (w : World) :
    Calls Try.prog 9 #[.agg #[.int .i64 an, .int .i64 ad], .int .i32 m] w fun e w' => e = .returned (.bool true) ∧ Below w.heap.size w w' := by
  have f2 := ok_yes hv
  have fv : floorV an ad = an / ad := if_pos hv
  obtain ⟨q1, q2, q3, q4, q5, q6, q7, q8⟩ := floor_facts hv
  rw [← fv] at q1 q2 q3 q4 q5 q6 q7 q8
  have mne : (m == -2147483648) = false := by simp; omega
  have g1 : addE an ad m 1 = 70 := if_neg hg
  clear hv fv hg
  have B := Below.refl w.heap.size w
  go_enter Try.func9, Try.ntmps9
  go_wp2_with fail
  refine (sane_any _).mono ?_; rintro e w1 ⟨rfl, hb⟩
  have z1 := hb.size; simp at z1
  replace B := below_after (B.alloc (by first | omega | (simp; done) | (simp; omega)) _) hb (by first | omega | (simp; done) | (simp; omega))
  have K_a := blk_below (blk_new _ _) hb (by first | omega | (simp; done) | (simp; omega))
  replace K_a := Lib.hid K_a
  clear hb
  have c_a_0 := blk_cell K_a.out 0; simp at c_a_0
  have c_a_1 := blk_cell K_a.out 1; simp at c_a_1
  go_wp2_with fail
  refine (floor_any _ _ _).mono ?_; rintro e w2 ⟨rfl, hb⟩
  rw [f2]
  clear c_a_0 c_a_1
  have z2 := hb.size
  replace B := below_after B hb (by first | omega | (simp; done) | (simp; omega))
  replace K_a := Lib.hid (blk_below K_a.out hb (by first | omega | (simp; done) | (simp; omega)))
  clear hb
  have c_a_0 := blk_cell K_a.out 0; simp at c_a_0
  have c_a_1 := blk_cell K_a.out 1; simp at c_a_1
  go_wp2_with fail
  refine (add_any _ _ _ _ _).mono ?_; rintro e w3 ⟨rfl, hb⟩
  rw [g1]
  have z3 := hb.size
  replace B := below_after B hb (by first | omega | (simp; done) | (simp; omega))
  replace K_a := Lib.hid (blk_below K_a.out hb (by first | omega | (simp; done) | (simp; omega)))
  clear hb
  clear c_a_0 c_a_1
  go_wp2
  go_ret
  exact ⟨by simp, B.alloc (by first | omega | (simp; done) | (simp; omega)) _⟩

set_option maxRecDepth 100000 in
set_option maxHeartbeats 2000000 in
theorem rationalFloor_ok (an ad m : Int) (hv : Valid an ad) (m1 : -2147483648 < m) (m2 : m ≤ 2147483647) (hg : addGood an ad m 1) (w : World) :
    Calls Try.prog 9 #[.agg #[.int .i64 an, .int .i64 ad], .int .i32 m] w fun e w' => e = .returned (.bool true) ∧ Below w.heap.size w w' := by
  have f2 := ok_yes hv
  have fv : floorV an ad = an / ad := if_pos hv
  obtain ⟨q1, q2, q3, q4, q5, q6, q7, q8⟩ := floor_facts hv
  rw [← fv] at q1 q2 q3 q4 q5 q6 q7 q8
  have mne : (m == -2147483648) = false := by simp; omega
  obtain ⟨sn, sd, g1, g2, g3, k1', k2⟩ := floor_add hv hg
  have k1 : floorV sn sd = floorV an ad + m := by rw [fv]; exact k1'
  clear hv fv hg k1'
  have B := Below.refl w.heap.size w
  go_enter Try.func9, Try.ntmps9
  go_wp2_with fail
  refine (sane_any _).mono ?_; rintro e w1 ⟨rfl, hb⟩
  have z1 := hb.size; simp at z1
  replace B := below_after (B.alloc (by first | omega | (simp; done) | (simp; omega)) _) hb (by first | omega | (simp; done) | (simp; omega))
  have K_a := blk_below (blk_new _ _) hb (by first | omega | (simp; done) | (simp; omega))
  replace K_a := Lib.hid K_a
  clear hb
  have c_a_0 := blk_cell K_a.out 0; simp at c_a_0
  have c_a_1 := blk_cell K_a.out 1; simp at c_a_1
  go_wp2_with fail
  refine (floor_any _ _ _).mono ?_; rintro e w2 ⟨rfl, hb⟩
  rw [f2]
  clear c_a_0 c_a_1
  have z2 := hb.size
  replace B := below_after B hb (by first | omega | (simp; done) | (simp; omega))
  replace K_a := Lib.hid (blk_below K_a.out hb (by first | omega | (simp; done) | (simp; omega)))
  clear hb
  have c_a_0 := blk_cell K_a.out 0; simp at c_a_0
  have c_a_1 := blk_cell K_a.out 1; simp at c_a_1
  go_wp2_with fail
  refine (add_any _ _ _ _ _).mono ?_; rintro e w3 ⟨rfl, hb⟩
  rw [g1, g2, g3]
  have z3 := hb.size
  replace B := below_after B hb (by first | omega | (simp; done) | (simp; omega))
  replace K_a := Lib.hid (blk_below K_a.out hb (by first | omega | (simp; done) | (simp; omega)))
  clear hb
  clear c_a_0 c_a_1
  go_wp2_with fail
  refine (floor_any _ _ _).mono ?_; rintro e w4 ⟨rfl, hb⟩
  rw [k1, k2]
  have z4 := hb.size; simp at z4
  replace B := below_after (B.alloc (by first | omega | (simp; done) | (simp; omega)) _) hb (by first | omega | (simp; done) | (simp; omega))
  replace K_a := Lib.hid (blk_below (blk_alloc K_a.out _) hb (by first | omega | (simp; done) | (simp; omega)))
  have K_sum := blk_below (blk_new _ _) hb (by first | omega | (simp; done) | (simp; omega))
  replace K_sum := Lib.hid K_sum
  clear hb
  go_wp2
  go_ret
  exact ⟨by simp, B⟩

theorem rationalFloor_walk (an ad m : Int) (w : World) (m1 : -2147483648 ≤ m) (m2 : m ≤ 2147483647) :
    Calls Try.prog 9 #[.agg #[.int .i64 an, .int .i64 ad], .int .i32 m] w fun e w' => e = .returned (.bool true) ∧ Below w.heap.size w w' := by
  by_cases hv : Valid an ad
  · by_cases hm : m = -2147483648
    · exact rationalFloor_min _ _ _ hv hm _
    · by_cases hg : addGood an ad m 1
      · exact rationalFloor_ok _ _ _ hv (by omega) m2 hg _
      · exact rationalFloor_badsum _ _ _ hv (by omega) m2 hg _
  · exact rationalFloor_bad _ _ _ hv _
end Go.Proofs.Ytaaoekddhgjckaa
