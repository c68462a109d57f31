/- The contract of the specification's 'reduced' (layer 7). -/
import Derived.Test.YtaaoekddhgjckaaRatRef
namespace Go.Proofs.Ytaaoekddhgjckaa
open Go.ChangeShapes Go.WideShapes Go.ChangeAt Go.RowKit

theorem rdiv_int (a b : Int) (w : World) (ha : 0 ≤ a) (ha2 : a ≤ 9223372036854775807) (hb : 0 ≤ b) (hb2 : b ≤ 9223372036854775807) :
    Calls Try.prog 39 #[.int .i64 a, .int .i64 b] w fun e w' => e = .returned (.int .i64 (Int.gcd a b)) ∧ w' = w := by
  obtain ⟨x, rfl⟩ := Int.eq_ofNat_of_zero_le ha
  obtain ⟨y, rfl⟩ := Int.eq_ofNat_of_zero_le hb
  exact rdivisor_any x y w (by omega) (by omega)

set_option maxHeartbeats 1000000 in
theorem reduced_py (n d : Int) (w : World) (hd : 0 < d) (d1 : -4611686018427387904 ≤ d) (d2 : d ≤ 4611686018427387904) (n1 : -9223372036854775807 ≤ n) (n2 : n ≤ 9223372036854775807) (hf : Fits n d) :
    Calls Try.prog 29 #[.int .i64 n, .int .i64 d] w fun e w' => e = .returned (.tuple #[.agg #[.int .i64 (redN n d), .int .i64 (redD n d)], .bool true]) ∧ Below w.heap.size w w' := by
  have ad := abs_div (n := n) (d := d) (by omega)
  rw [if_neg (by omega), if_neg (by omega)] at ad
  obtain ⟨a1, a2⟩ := ad
  have g := gcd_bd (n := n) (d := d) (by omega)
  have hg : Int.gcd (n.natAbs : Int) d = Int.gcd n d := by simp [Int.gcd]
  have b1 := tdiv_bd n (g := Int.gcd n d) 9223372036854775807 (by omega) (by omega)
  have b2 := tdiv_bd d (g := Int.gcd n d) 4611686018427387904 (by omega) (by omega)
  have gz : ((Int.gcd n d : Int) == 0) = false := by simp only [beq_eq_false_iff_ne]; omega
  unfold Fits at hf
  rw [← a1, ← a2] at hf ⊢
  clear a1 a2
  obtain ⟨f1, f2, f3⟩ := hf
  have HG := Lib.hid hg; clear hg
  go_enter Try.func29, Try.ntmps29
  go_wp2_with fail
  refine (rsize_any _ _ (by omega) (by omega)).mono ?_; rintro e w1 ⟨rfl, rfl⟩
  go_wp2_with fail
  refine (rdiv_int _ _ _ (by omega) (by omega) (by omega) (by omega)).mono ?_; rintro e w1 ⟨rfl, rfl⟩
  rw [HG.out]
  go_wp2
  exact bodyPost_ret (v := .tuple #[.agg #[.int .i64 (n.tdiv (Int.gcd n d)), .int .i64 (d.tdiv (Int.gcd n d))], .bool true]) (by simp [results, Try.results29, go_sem]) rfl ⟨rfl, by go_grown⟩

set_option maxHeartbeats 1000000 in
theorem reduced_px (n d : Int) (w : World) (hd : 0 < d) (d1 : -4611686018427387904 ≤ d) (d2 : d ≤ 4611686018427387904) (n1 : -9223372036854775807 ≤ n) (n2 : n ≤ 9223372036854775807) (hf : ¬ Fits n d) :
    Calls Try.prog 29 #[.int .i64 n, .int .i64 d] w fun e w' => e = .returned (.tuple #[.agg #[.int .i64 (0), .int .i64 (0)], .bool false]) ∧ Below w.heap.size w w' := by
  have ad := abs_div (n := n) (d := d) (by omega)
  rw [if_neg (by omega), if_neg (by omega)] at ad
  obtain ⟨a1, a2⟩ := ad
  have g := gcd_bd (n := n) (d := d) (by omega)
  have hg : Int.gcd (n.natAbs : Int) d = Int.gcd n d := by simp [Int.gcd]
  have b1 := tdiv_bd n (g := Int.gcd n d) 9223372036854775807 (by omega) (by omega)
  have b2 := tdiv_bd d (g := Int.gcd n d) 4611686018427387904 (by omega) (by omega)
  have gz : ((Int.gcd n d : Int) == 0) = false := by simp only [beq_eq_false_iff_ne]; omega
  unfold Fits at hf
  rw [← a1, ← a2] at hf
  clear a1 a2
  have HF := Lib.hid hf; clear hf
  have HG := Lib.hid hg; clear hg
  go_enter Try.func29, Try.ntmps29
  go_wp2_with fail
  refine (rsize_any _ _ (by omega) (by omega)).mono ?_; rintro e w1 ⟨rfl, rfl⟩
  go_wp2_with fail
  refine (rdiv_int _ _ _ (by omega) (by omega) (by omega) (by omega)).mono ?_; rintro e w1 ⟨rfl, rfl⟩
  rw [HG.out]
  go_wp2
  all_goals first | (exfalso; have := HF.out; omega) | exact bodyPost_ret (v := .tuple #[.agg #[.int .i64 0, .int .i64 0], .bool false]) (by simp [results, Try.results29, go_sem]) rfl ⟨rfl, by go_grown⟩

set_option maxHeartbeats 1000000 in
theorem reduced_ny (n d : Int) (w : World) (hd : d < 0) (d1 : -4611686018427387904 ≤ d) (d2 : d ≤ 4611686018427387904) (n1 : -9223372036854775807 ≤ n) (n2 : n ≤ 9223372036854775807) (hf : Fits n d) :
    Calls Try.prog 29 #[.int .i64 n, .int .i64 d] w fun e w' => e = .returned (.tuple #[.agg #[.int .i64 (redN n d), .int .i64 (redD n d)], .bool true]) ∧ Below w.heap.size w w' := by
  have ad := abs_div (n := n) (d := d) (by omega)
  rw [if_pos hd, if_pos hd, Int.neg_tdiv, Int.neg_tdiv] at ad
  obtain ⟨a1, a2⟩ := ad
  have g := gcd_bd (n := n) (d := d) (by omega)
  have hg : Int.gcd (n.natAbs : Int) (-d) = Int.gcd n d := by simp [Int.gcd]
  have b1 := tdiv_bd n (g := Int.gcd n d) 9223372036854775807 (by omega) (by omega)
  have b2 := tdiv_bd d (g := Int.gcd n d) 4611686018427387904 (by omega) (by omega)
  have gz : ((Int.gcd n d : Int) == 0) = false := by simp only [beq_eq_false_iff_ne]; omega
  unfold Fits at hf
  rw [← a1, ← a2] at hf ⊢
  clear a1 a2
  obtain ⟨f1, f2, f3⟩ := hf
  have HG := Lib.hid hg; clear hg
  go_enter Try.func29, Try.ntmps29
  go_wp2_with fail
  refine (rsize_any _ _ (by omega) (by omega)).mono ?_; rintro e w1 ⟨rfl, rfl⟩
  go_wp2_with fail
  refine (rdiv_int _ _ _ (by omega) (by omega) (by omega) (by omega)).mono ?_; rintro e w1 ⟨rfl, rfl⟩
  rw [HG.out]
  go_wp2
  exact bodyPost_ret (v := .tuple #[.agg #[.int .i64 (-n.tdiv (Int.gcd n d)), .int .i64 (-d.tdiv (Int.gcd n d))], .bool true]) (by simp [results, Try.results29, go_sem]) rfl ⟨rfl, by go_grown⟩

set_option maxHeartbeats 1000000 in
theorem reduced_nx (n d : Int) (w : World) (hd : d < 0) (d1 : -4611686018427387904 ≤ d) (d2 : d ≤ 4611686018427387904) (n1 : -9223372036854775807 ≤ n) (n2 : n ≤ 9223372036854775807) (hf : ¬ Fits n d) :
    Calls Try.prog 29 #[.int .i64 n, .int .i64 d] w fun e w' => e = .returned (.tuple #[.agg #[.int .i64 (0), .int .i64 (0)], .bool false]) ∧ Below w.heap.size w w' := by
  have ad := abs_div (n := n) (d := d) (by omega)
  rw [if_pos hd, if_pos hd, Int.neg_tdiv, Int.neg_tdiv] at ad
  obtain ⟨a1, a2⟩ := ad
  have g := gcd_bd (n := n) (d := d) (by omega)
  have hg : Int.gcd (n.natAbs : Int) (-d) = Int.gcd n d := by simp [Int.gcd]
  have b1 := tdiv_bd n (g := Int.gcd n d) 9223372036854775807 (by omega) (by omega)
  have b2 := tdiv_bd d (g := Int.gcd n d) 4611686018427387904 (by omega) (by omega)
  have gz : ((Int.gcd n d : Int) == 0) = false := by simp only [beq_eq_false_iff_ne]; omega
  unfold Fits at hf
  rw [← a1, ← a2] at hf
  clear a1 a2
  have HF := Lib.hid hf; clear hf
  have HG := Lib.hid hg; clear hg
  go_enter Try.func29, Try.ntmps29
  go_wp2_with fail
  refine (rsize_any _ _ (by omega) (by omega)).mono ?_; rintro e w1 ⟨rfl, rfl⟩
  go_wp2_with fail
  refine (rdiv_int _ _ _ (by omega) (by omega) (by omega) (by omega)).mono ?_; rintro e w1 ⟨rfl, rfl⟩
  rw [HG.out]
  go_wp2
  all_goals first | (exfalso; have := HF.out; omega) | exact bodyPost_ret (v := .tuple #[.agg #[.int .i64 0, .int .i64 0], .bool false]) (by simp [results, Try.results29, go_sem]) rfl ⟨rfl, by go_grown⟩

theorem reduced_any (n d : Int) (w : World) (hd : d ≠ 0) (d1 : -4611686018427387904 ≤ d) (d2 : d ≤ 4611686018427387904) (n1 : -9223372036854775807 ≤ n) (n2 : n ≤ 9223372036854775807) :
    Calls Try.prog 29 #[.int .i64 n, .int .i64 d] w fun e w' => e = .returned (.tuple #[.agg #[.int .i64 (rdN n d), .int .i64 (rdD n d)], .bool (fitB n d)]) ∧ Below w.heap.size w w' := by
  unfold rdN rdD fitB
  by_cases hf : Fits n d
  · rw [if_pos hf, if_pos hf, decide_eq_true hf]
    by_cases hn : d < 0
    · exact reduced_ny n d w hn d1 d2 n1 n2 hf
    · exact reduced_py n d w (by omega) d1 d2 n1 n2 hf
  · rw [if_neg hf, if_neg hf, decide_eq_false hf]
    by_cases hn : d < 0
    · exact reduced_nx n d w hn d1 d2 n1 n2 hf
    · exact reduced_px n d w (by omega) d1 d2 n1 n2 hf
end Go.Proofs.Ytaaoekddhgjckaa
