/- The walk of FixedEnds (layer 8). -/
import Derived.Test.YtcljkjachaecoaaFixLaws
namespace Go.Proofs.Ytcljkjachaecoaa
open Go.ChangeShapes Go.WideShapes Go.ChangeAt Go.RowKit

theorem frac_le {p q p' q' : Int} (hq : 0 < q) (hq' : 0 < q') (h : p * q' ≤ p' * q) : p / q ≤ p' / q' := by
  rw [Int.le_ediv_iff_mul_le hq']
  have h1 : p / q * q ≤ p := Int.ediv_mul_le p (by omega)
  have h2 : p / q * q * q' ≤ p * q' := Int.mul_le_mul_of_nonneg_right h1 (by omega)
  have h3 : p / q * q' * q ≤ p' * q := by
    rw [Int.mul_assoc, Int.mul_comm q' q, ← Int.mul_assoc]; omega
  exact Int.le_of_mul_le_mul_right h3 hq
theorem bend_form {A B d n wa wb : Int} (hS : 0 < wa * (d - n) + wb * n) :
    (A * (wa * (d - n)) + B * (wb * n)) / (wa * (d - n) + wb * n) = A + ((B - A) * wb * n) / (wa * (d - n) + wb * n) := by
  have e : A * (wa * (d - n)) + B * (wb * n) = (B - A) * wb * n + A * (wa * (d - n) + wb * n) := by
    rw [Int.mul_add, Int.sub_mul, Int.sub_mul, Int.mul_assoc B, Int.mul_assoc A wb n]; omega
  rw [e, Int.add_mul_ediv_right _ _ (by omega)]; omega
theorem bend_pos {d n wa wb : Int} (h1 : 1 ≤ d) (h3 : 0 ≤ n) (h4 : n ≤ d) (k1 : 1 ≤ wa) (k2 : 1 ≤ wb) : 0 < wa * (d - n) + wb * n ∧ 0 ≤ wa * (d - n) ∧ 0 ≤ wb * n := by
  have m1 : 1 * (d - n) ≤ wa * (d - n) := Int.mul_le_mul_of_nonneg_right k1 (by omega)
  have m2 : 1 * n ≤ wb * n := Int.mul_le_mul_of_nonneg_right k2 (by omega)
  omega
theorem cross {C d n wa wb : Int} : (C * n) * (wa * (d - (n - 1)) + wb * (n - 1)) = (C * (n - 1)) * (wa * (d - n) + wb * n) + C * (wa * d) := by grind
theorem bend_up {A B d n wa wb : Int} (h1 : 1 ≤ d) (h3 : 1 ≤ n) (h4 : n ≤ d) (k1 : 1 ≤ wa) (k2 : 1 ≤ wb) (hab : A ≤ B) :
    ((B - A) * wb * (n - 1)) / (wa * (d - (n - 1)) + wb * (n - 1)) ≤ ((B - A) * wb * n) / (wa * (d - n) + wb * n) := by
  have p1 := (bend_pos h1 (by omega) h4 k1 k2).1
  have p2 := (bend_pos (n := n - 1) h1 (by omega) (by omega) k1 k2).1
  refine frac_le p2 p1 ?_
  rw [cross]
  have : 0 ≤ (B - A) * wb * (wa * d) := Int.mul_nonneg (Int.mul_nonneg (by omega) (by omega)) (Int.mul_nonneg (by omega) (by omega))
  omega
theorem bend_down {A B d n wa wb : Int} (h1 : 1 ≤ d) (h3 : 1 ≤ n) (h4 : n ≤ d) (k1 : 1 ≤ wa) (k2 : 1 ≤ wb) (hab : B ≤ A) :
    ((B - A) * wb * n) / (wa * (d - n) + wb * n) ≤ ((B - A) * wb * (n - 1)) / (wa * (d - (n - 1)) + wb * (n - 1)) := by
  have p1 := (bend_pos h1 (by omega) h4 k1 k2).1
  have p2 := (bend_pos (n := n - 1) h1 (by omega) (by omega) k1 k2).1
  refine frac_le p1 p2 ?_
  rw [cross]
  have : (B - A) * wb * (wa * d) ≤ 0 := Int.mul_nonpos_of_nonpos_of_nonneg (Int.mul_nonpos_of_nonpos_of_nonneg (by omega) (by omega)) (Int.mul_nonneg (by omega) (by omega))
  omega
theorem bend_in {A B d n wa wb : Int} (h1 : 1 ≤ d) (h3 : 0 ≤ n) (h4 : n ≤ d) (k1 : 1 ≤ wa) (k2 : 1 ≤ wb) :
    min A B ≤ (A * (wa * (d - n)) + B * (wb * n)) / (wa * (d - n) + wb * n) ∧ (A * (wa * (d - n)) + B * (wb * n)) / (wa * (d - n) + wb * n) ≤ max A B := by
  obtain ⟨p, q, r⟩ := bend_pos h1 h3 h4 k1 k2
  generalize wa * (d - n) = x at *
  generalize wb * n = y at *
  constructor
  · rw [Int.le_ediv_iff_mul_le p, Int.mul_add]
    have := Int.mul_le_mul_of_nonneg_right (Int.min_le_left A B) q
    have := Int.mul_le_mul_of_nonneg_right (Int.min_le_right A B) r
    omega
  · have : A * x + B * y < (max A B + 1) * (x + y) := by
      rw [Int.add_mul, Int.mul_add]
      have := Int.mul_le_mul_of_nonneg_right (Int.le_max_left A B) q
      have := Int.mul_le_mul_of_nonneg_right (Int.le_max_right A B) r
      omega
    have := Int.ediv_lt_of_lt_mul p this
    omega
theorem bend_same {A B d n : Int} (h1 : 1 ≤ d) : (A * (5 * (d - n)) + B * (5 * n)) / (5 * (d - n) + 5 * n) = A + (B - A) * n / d := by
  have e1 : A * (5 * (d - n)) + B * (5 * n) = 5 * (A * d + (B - A) * n) := by grind
  have e2 : 5 * (d - n) + 5 * n = 5 * d := by omega
  rw [e1, e2, Int.mul_ediv_mul_of_pos _ _ (by omega), Int.add_comm, Int.add_mul_ediv_right _ _ (by omega), Int.add_comm]

theorem bend55 (a b n d : Int) (h : 1 ≤ d) : (bendV a b n d 5 5 != lineV a b n d) = false := by
  unfold bendV lineV; rw [bend_same h]; simp
theorem lineV_0 (a b d : Int) : lineV a b 0 d = clip a := by unfold lineV; simp
theorem lineV_d (a b d : Int) (h : 1 ≤ d) : lineV a b d d = clip b := by unfold lineV; rw [Int.mul_ediv_cancel _ (by omega)]; omega
theorem lineV_up (a b n d : Int) (h : 1 ≤ d) (hab : clip a ≤ clip b) : lineV a b (n - 1) d ≤ lineV a b n d := by
  unfold lineV
  have : (clip b - clip a) * (n - 1) ≤ (clip b - clip a) * n := Int.mul_le_mul_of_nonneg_left (by omega) (by omega)
  have := Int.ediv_le_ediv (a := (clip b - clip a) * (n - 1)) (b := (clip b - clip a) * n) (c := d) (by omega) this
  omega
theorem lineV_down (a b n d : Int) (h : 1 ≤ d) (hab : clip b ≤ clip a) : lineV a b n d ≤ lineV a b (n - 1) d := by
  unfold lineV
  have : (clip b - clip a) * n ≤ (clip b - clip a) * (n - 1) := Int.mul_le_mul_of_nonpos_left (by omega) (by omega)
  have := Int.ediv_le_ediv (a := (clip b - clip a) * n) (b := (clip b - clip a) * (n - 1)) (c := d) (by omega) this
  omega
theorem bendV_0 (a b d wa wb : Int) (h : 1 ≤ d) (k : 1 ≤ wa) : bendV a b 0 d wa wb = clip a := by
  have : 0 < wa * d := Int.mul_pos (by omega) (by omega)
  unfold bendV
  simp only [Int.sub_zero, Int.mul_zero, Int.add_zero]
  exact Int.mul_ediv_cancel _ (by omega)
theorem bendV_up (a b n d wa wb : Int) (h1 : 1 ≤ d) (h3 : 1 ≤ n) (h4 : n ≤ d) (k1 : 1 ≤ wa) (k2 : 1 ≤ wb) (hab : clip a ≤ clip b) : bendV a b (n - 1) d wa wb ≤ bendV a b n d wa wb := by
  unfold bendV
  rw [bend_form (bend_pos h1 (by omega) h4 k1 k2).1, bend_form (bend_pos (n := n - 1) h1 (by omega) (by omega) k1 k2).1]
  have := bend_up (A := clip a) (B := clip b) h1 h3 h4 k1 k2 hab
  omega
theorem bendV_down (a b n d wa wb : Int) (h1 : 1 ≤ d) (h3 : 1 ≤ n) (h4 : n ≤ d) (k1 : 1 ≤ wa) (k2 : 1 ≤ wb) (hab : clip b ≤ clip a) : bendV a b n d wa wb ≤ bendV a b (n - 1) d wa wb := by
  unfold bendV
  rw [bend_form (bend_pos h1 (by omega) h4 k1 k2).1, bend_form (bend_pos (n := n - 1) h1 (by omega) (by omega) k1 k2).1]
  have := bend_down (A := clip a) (B := clip b) h1 h3 h4 k1 k2 hab
  omega

set_option maxRecDepth 100000 in
set_option maxHeartbeats 2000000 in
theorem fixedEnds_bad (a b num den wa wb : Int) (w : World) (hl : ¬ validL num den) :
    Calls Try.prog 8 #[.int .i64 a, .int .i64 b, .int .i64 num, .int .i64 den, .int .i64 wa, .int .i64 wb] w fun e w' => e = .returned (.bool true) ∧ Below w.heap.size w w' := by
  have hb := Below.refl w.heap.size w
  have HL := Lib.hid hl; clear hl
  go_enter Try.func8, Try.ntmps8
  go_wp2_with (first | (go_at_call 10; refine (sane_any _).mono ?_; rintro e w2 ⟨rfl, hn⟩; replace hb := below_after hb hn hb.size; clear hn) | (go_at_call 19; refine (line_no _ _ _ _ _ HL.out).mono ?_; rintro e w2 ⟨rfl, hn⟩; replace hb := below_after hb hn hb.size; clear hn) | (go_at_call 21; refine (bend_no _ _ _ _ _ _ _ (.inl HL.out)).mono ?_; rintro e w2 ⟨rfl, hn⟩; replace hb := below_after hb hn hb.size; clear hn))
  all_goals (go_ret; exact ⟨by simp, hb⟩)

set_option maxRecDepth 100000 in
set_option maxHeartbeats 4000000 in
theorem fixedEnds_yuz (a b num den wa wb : Int) (w : World) (hl : validL num den) (hw : validW wa wb) (hd : clip a ≤ clip b) (hz : num = 0) :
    Calls Try.prog 8 #[.int .i64 a, .int .i64 b, .int .i64 num, .int .i64 den, .int .i64 wa, .int .i64 wb] w fun e w' => e = .returned (.bool true) ∧ Below w.heap.size w w' := by
  subst hz
  have hb := Below.refl w.heap.size w
  obtain ⟨h1, h2, h3, h4⟩ := id hl
  have hld : validL den den := ⟨h1, h2, by omega, by omega⟩
  have hk : validW 5 5 := ⟨by omega, by omega, by omega, by omega⟩
  have f1 := lineV_0 a b den
  have f2 := lineV_d a b den h1
  have f3 := bend55 a b 0 den h1
  have f4 : (lineV a b 0 den != clip a) = false := by simp [f1]
  have f5 : (lineV a b den den != clip b) = false := by simp [f2]
  have b1 := line_in (a := clip a) (b := clip b) h1 h3 h4
  have b2 : min (clip a) (clip b) ≤ lineV a b 0 den ∧ lineV a b 0 den ≤ max (clip a) (clip b) := b1
  clear b1
  have g1 : lineV a b 0 den ≤ clip a := by omega
  have g2 : clip a ≤ lineV a b 0 den := by omega
  have g3 : lineV a b den den ≤ clip b := by omega
  have g4 : clip b ≤ lineV a b den den := by omega
  clear f1 f2
  have bb := bend_in (A := clip a) (B := clip b) h1 h3 h4 hw.1 hw.2.2.1
  have b3 : min (clip a) (clip b) ≤ bendV a b 0 den wa wb ∧ bendV a b 0 den wa wb ≤ max (clip a) (clip b) := bb
  clear bb
  have f6 : (bendV a b 0 den wa wb == lineV a b 0 den) = true := by simp [bendV_0 a b den wa wb h1 hw.1, lineV_0]
  go_enter Try.func8, Try.ntmps8
  go_wp2_with (first | (go_at_call 10; refine (sane_any _).mono ?_; rintro e w2 ⟨rfl, hn⟩; replace hb := below_after hb hn hb.size; clear hn) | (go_at_call 19; refine (line_yes (by first | exact hl | exact hld)).mono ?_; rintro e w2 ⟨rfl, hn⟩; replace hb := below_after hb hn hb.size; clear hn) | (go_at_call 21; refine (bend_yes (by first | exact hl) (by first | exact hk | exact hw)).mono ?_; rintro e w2 ⟨rfl, hn⟩; replace hb := below_after hb hn hb.size; clear hn) | (go_at_call 11; refine (clip_any _ _).mono ?_; rintro e w' ⟨rfl, rfl⟩))
  all_goals (go_ret; exact ⟨by simp, hb⟩)

set_option maxRecDepth 100000 in
set_option maxHeartbeats 4000000 in
theorem fixedEnds_yup (a b num den wa wb : Int) (w : World) (hl : validL num den) (hw : validW wa wb) (hd : clip a ≤ clip b) (hz : 1 ≤ num) :
    Calls Try.prog 8 #[.int .i64 a, .int .i64 b, .int .i64 num, .int .i64 den, .int .i64 wa, .int .i64 wb] w fun e w' => e = .returned (.bool true) ∧ Below w.heap.size w w' := by
  have hb := Below.refl w.heap.size w
  obtain ⟨h1, h2, h3, h4⟩ := id hl
  have hl0 : validL 0 den := ⟨h1, h2, by omega, by omega⟩
  have hld : validL den den := ⟨h1, h2, by omega, by omega⟩
  have hk : validW 5 5 := ⟨by omega, by omega, by omega, by omega⟩
  have f1 := lineV_0 a b den
  have f2 := lineV_d a b den h1
  have f3 := bend55 a b num den h1
  have f4 : (lineV a b 0 den != clip a) = false := by simp [f1]
  have f5 : (lineV a b den den != clip b) = false := by simp [f2]
  have b1 := line_in (a := clip a) (b := clip b) h1 h3 h4
  have b2 : min (clip a) (clip b) ≤ lineV a b num den ∧ lineV a b num den ≤ max (clip a) (clip b) := b1
  clear b1
  have g1 : lineV a b 0 den ≤ clip a := by omega
  have g2 : clip a ≤ lineV a b 0 den := by omega
  have g3 : lineV a b den den ≤ clip b := by omega
  have g4 : clip b ≤ lineV a b den den := by omega
  clear f1 f2
  have bb := bend_in (A := clip a) (B := clip b) h1 h3 h4 hw.1 hw.2.2.1
  have b3 : min (clip a) (clip b) ≤ bendV a b num den wa wb ∧ bendV a b num den wa wb ≤ max (clip a) (clip b) := bb
  clear bb
  have hlm : validL (num - 1) den := ⟨h1, h2, by omega, by omega⟩
  have nz : (num == 0) = false := by simp; omega
  have m1 := lineV_up a b num den h1 hd
  have m2 := bendV_up a b num den wa wb h1 hz h4 hw.1 hw.2.2.1 hd
  go_enter Try.func8, Try.ntmps8
  go_wp2_with (first | (go_at_call 10; refine (sane_any _).mono ?_; rintro e w2 ⟨rfl, hn⟩; replace hb := below_after hb hn hb.size; clear hn) | (go_at_call 19; refine (line_yes (by first | exact hl | exact hl0 | exact hld | exact hlm)).mono ?_; rintro e w2 ⟨rfl, hn⟩; replace hb := below_after hb hn hb.size; clear hn) | (go_at_call 21; refine (bend_yes (by first | exact hl | exact hlm) (by first | exact hk | exact hw)).mono ?_; rintro e w2 ⟨rfl, hn⟩; replace hb := below_after hb hn hb.size; clear hn) | (go_at_call 11; refine (clip_any _ _).mono ?_; rintro e w' ⟨rfl, rfl⟩))
  all_goals (go_ret; exact ⟨by simp, hb⟩)

set_option maxRecDepth 100000 in
set_option maxHeartbeats 4000000 in
theorem fixedEnds_ydz (a b num den wa wb : Int) (w : World) (hl : validL num den) (hw : validW wa wb) (hd : clip b < clip a) (hz : num = 0) :
    Calls Try.prog 8 #[.int .i64 a, .int .i64 b, .int .i64 num, .int .i64 den, .int .i64 wa, .int .i64 wb] w fun e w' => e = .returned (.bool true) ∧ Below w.heap.size w w' := by
  subst hz
  have hb := Below.refl w.heap.size w
  obtain ⟨h1, h2, h3, h4⟩ := id hl
  have hld : validL den den := ⟨h1, h2, by omega, by omega⟩
  have hk : validW 5 5 := ⟨by omega, by omega, by omega, by omega⟩
  have f1 := lineV_0 a b den
  have f2 := lineV_d a b den h1
  have f3 := bend55 a b 0 den h1
  have f4 : (lineV a b 0 den != clip a) = false := by simp [f1]
  have f5 : (lineV a b den den != clip b) = false := by simp [f2]
  have b1 := line_in (a := clip a) (b := clip b) h1 h3 h4
  have b2 : min (clip a) (clip b) ≤ lineV a b 0 den ∧ lineV a b 0 den ≤ max (clip a) (clip b) := b1
  clear b1
  have g1 : lineV a b 0 den ≤ clip a := by omega
  have g2 : clip a ≤ lineV a b 0 den := by omega
  have g3 : lineV a b den den ≤ clip b := by omega
  have g4 : clip b ≤ lineV a b den den := by omega
  clear f1 f2
  have bb := bend_in (A := clip a) (B := clip b) h1 h3 h4 hw.1 hw.2.2.1
  have b3 : min (clip a) (clip b) ≤ bendV a b 0 den wa wb ∧ bendV a b 0 den wa wb ≤ max (clip a) (clip b) := bb
  clear bb
  have f6 : (bendV a b 0 den wa wb == lineV a b 0 den) = true := by simp [bendV_0 a b den wa wb h1 hw.1, lineV_0]
  go_enter Try.func8, Try.ntmps8
  go_wp2_with (first | (go_at_call 10; refine (sane_any _).mono ?_; rintro e w2 ⟨rfl, hn⟩; replace hb := below_after hb hn hb.size; clear hn) | (go_at_call 19; refine (line_yes (by first | exact hl | exact hld)).mono ?_; rintro e w2 ⟨rfl, hn⟩; replace hb := below_after hb hn hb.size; clear hn) | (go_at_call 21; refine (bend_yes (by first | exact hl) (by first | exact hk | exact hw)).mono ?_; rintro e w2 ⟨rfl, hn⟩; replace hb := below_after hb hn hb.size; clear hn) | (go_at_call 11; refine (clip_any _ _).mono ?_; rintro e w' ⟨rfl, rfl⟩))
  all_goals (go_ret; exact ⟨by simp, hb⟩)

set_option maxRecDepth 100000 in
set_option maxHeartbeats 4000000 in
theorem fixedEnds_ydp (a b num den wa wb : Int) (w : World) (hl : validL num den) (hw : validW wa wb) (hd : clip b < clip a) (hz : 1 ≤ num) :
    Calls Try.prog 8 #[.int .i64 a, .int .i64 b, .int .i64 num, .int .i64 den, .int .i64 wa, .int .i64 wb] w fun e w' => e = .returned (.bool true) ∧ Below w.heap.size w w' := by
  have hb := Below.refl w.heap.size w
  obtain ⟨h1, h2, h3, h4⟩ := id hl
  have hl0 : validL 0 den := ⟨h1, h2, by omega, by omega⟩
  have hld : validL den den := ⟨h1, h2, by omega, by omega⟩
  have hk : validW 5 5 := ⟨by omega, by omega, by omega, by omega⟩
  have f1 := lineV_0 a b den
  have f2 := lineV_d a b den h1
  have f3 := bend55 a b num den h1
  have f4 : (lineV a b 0 den != clip a) = false := by simp [f1]
  have f5 : (lineV a b den den != clip b) = false := by simp [f2]
  have b1 := line_in (a := clip a) (b := clip b) h1 h3 h4
  have b2 : min (clip a) (clip b) ≤ lineV a b num den ∧ lineV a b num den ≤ max (clip a) (clip b) := b1
  clear b1
  have g1 : lineV a b 0 den ≤ clip a := by omega
  have g2 : clip a ≤ lineV a b 0 den := by omega
  have g3 : lineV a b den den ≤ clip b := by omega
  have g4 : clip b ≤ lineV a b den den := by omega
  clear f1 f2
  have bb := bend_in (A := clip a) (B := clip b) h1 h3 h4 hw.1 hw.2.2.1
  have b3 : min (clip a) (clip b) ≤ bendV a b num den wa wb ∧ bendV a b num den wa wb ≤ max (clip a) (clip b) := bb
  clear bb
  have hlm : validL (num - 1) den := ⟨h1, h2, by omega, by omega⟩
  have nz : (num == 0) = false := by simp; omega
  have m1 := lineV_down a b num den h1 (by omega)
  have m2 := bendV_down a b num den wa wb h1 hz h4 hw.1 hw.2.2.1 (by omega)
  go_enter Try.func8, Try.ntmps8
  go_wp2_with (first | (go_at_call 10; refine (sane_any _).mono ?_; rintro e w2 ⟨rfl, hn⟩; replace hb := below_after hb hn hb.size; clear hn) | (go_at_call 19; refine (line_yes (by first | exact hl | exact hl0 | exact hld | exact hlm)).mono ?_; rintro e w2 ⟨rfl, hn⟩; replace hb := below_after hb hn hb.size; clear hn) | (go_at_call 21; refine (bend_yes (by first | exact hl | exact hlm) (by first | exact hk | exact hw)).mono ?_; rintro e w2 ⟨rfl, hn⟩; replace hb := below_after hb hn hb.size; clear hn) | (go_at_call 11; refine (clip_any _ _).mono ?_; rintro e w' ⟨rfl, rfl⟩))
  all_goals (go_ret; exact ⟨by simp, hb⟩)

set_option maxRecDepth 100000 in
set_option maxHeartbeats 4000000 in
theorem fixedEnds_nuz (a b num den wa wb : Int) (w : World) (hl : validL num den) (hw : ¬ validW wa wb) (hd : clip a ≤ clip b) (hz : num = 0) :
    Calls Try.prog 8 #[.int .i64 a, .int .i64 b, .int .i64 num, .int .i64 den, .int .i64 wa, .int .i64 wb] w fun e w' => e = .returned (.bool true) ∧ Below w.heap.size w w' := by
  subst hz
  have hb := Below.refl w.heap.size w
  obtain ⟨h1, h2, h3, h4⟩ := id hl
  have hld : validL den den := ⟨h1, h2, by omega, by omega⟩
  have hk : validW 5 5 := ⟨by omega, by omega, by omega, by omega⟩
  have f1 := lineV_0 a b den
  have f2 := lineV_d a b den h1
  have f3 := bend55 a b 0 den h1
  have f4 : (lineV a b 0 den != clip a) = false := by simp [f1]
  have f5 : (lineV a b den den != clip b) = false := by simp [f2]
  have b1 := line_in (a := clip a) (b := clip b) h1 h3 h4
  have b2 : min (clip a) (clip b) ≤ lineV a b 0 den ∧ lineV a b 0 den ≤ max (clip a) (clip b) := b1
  clear b1
  have g1 : lineV a b 0 den ≤ clip a := by omega
  have g2 : clip a ≤ lineV a b 0 den := by omega
  have g3 : lineV a b den den ≤ clip b := by omega
  have g4 : clip b ≤ lineV a b den den := by omega
  clear f1 f2
  have HW := Lib.hid hw; clear hw
  go_enter Try.func8, Try.ntmps8
  go_wp2_with (first | (go_at_call 10; refine (sane_any _).mono ?_; rintro e w2 ⟨rfl, hn⟩; replace hb := below_after hb hn hb.size; clear hn) | (go_at_call 19; refine (line_yes (by first | exact hl | exact hld)).mono ?_; rintro e w2 ⟨rfl, hn⟩; replace hb := below_after hb hn hb.size; clear hn) | (go_at_call 21; refine (bend_yes (by exact hl) (by exact hk)).mono ?_; rintro e w2 ⟨rfl, hn⟩; replace hb := below_after hb hn hb.size; clear hn) | (go_at_call 21; refine (bend_no _ _ _ _ _ _ _ (.inr HW.out)).mono ?_; rintro e w2 ⟨rfl, hn⟩; replace hb := below_after hb hn hb.size; clear hn) | (go_at_call 11; refine (clip_any _ _).mono ?_; rintro e w' ⟨rfl, rfl⟩))
  all_goals (go_ret; exact ⟨by simp, hb⟩)

set_option maxRecDepth 100000 in
set_option maxHeartbeats 4000000 in
theorem fixedEnds_nup (a b num den wa wb : Int) (w : World) (hl : validL num den) (hw : ¬ validW wa wb) (hd : clip a ≤ clip b) (hz : 1 ≤ num) :
    Calls Try.prog 8 #[.int .i64 a, .int .i64 b, .int .i64 num, .int .i64 den, .int .i64 wa, .int .i64 wb] w fun e w' => e = .returned (.bool true) ∧ Below w.heap.size w w' := by
  have hb := Below.refl w.heap.size w
  obtain ⟨h1, h2, h3, h4⟩ := id hl
  have hl0 : validL 0 den := ⟨h1, h2, by omega, by omega⟩
  have hld : validL den den := ⟨h1, h2, by omega, by omega⟩
  have hk : validW 5 5 := ⟨by omega, by omega, by omega, by omega⟩
  have f1 := lineV_0 a b den
  have f2 := lineV_d a b den h1
  have f3 := bend55 a b num den h1
  have f4 : (lineV a b 0 den != clip a) = false := by simp [f1]
  have f5 : (lineV a b den den != clip b) = false := by simp [f2]
  have b1 := line_in (a := clip a) (b := clip b) h1 h3 h4
  have b2 : min (clip a) (clip b) ≤ lineV a b num den ∧ lineV a b num den ≤ max (clip a) (clip b) := b1
  clear b1
  have g1 : lineV a b 0 den ≤ clip a := by omega
  have g2 : clip a ≤ lineV a b 0 den := by omega
  have g3 : lineV a b den den ≤ clip b := by omega
  have g4 : clip b ≤ lineV a b den den := by omega
  clear f1 f2
  have HW := Lib.hid hw; clear hw
  have hlm : validL (num - 1) den := ⟨h1, h2, by omega, by omega⟩
  have nz : (num == 0) = false := by simp; omega
  have m1 := lineV_up a b num den h1 hd
  go_enter Try.func8, Try.ntmps8
  go_wp2_with (first | (go_at_call 10; refine (sane_any _).mono ?_; rintro e w2 ⟨rfl, hn⟩; replace hb := below_after hb hn hb.size; clear hn) | (go_at_call 19; refine (line_yes (by first | exact hl | exact hl0 | exact hld | exact hlm)).mono ?_; rintro e w2 ⟨rfl, hn⟩; replace hb := below_after hb hn hb.size; clear hn) | (go_at_call 21; refine (bend_yes (by exact hl) (by exact hk)).mono ?_; rintro e w2 ⟨rfl, hn⟩; replace hb := below_after hb hn hb.size; clear hn) | (go_at_call 21; refine (bend_no _ _ _ _ _ _ _ (.inr HW.out)).mono ?_; rintro e w2 ⟨rfl, hn⟩; replace hb := below_after hb hn hb.size; clear hn) | (go_at_call 11; refine (clip_any _ _).mono ?_; rintro e w' ⟨rfl, rfl⟩))
  all_goals (go_ret; exact ⟨by simp, hb⟩)

set_option maxRecDepth 100000 in
set_option maxHeartbeats 4000000 in
theorem fixedEnds_ndz (a b num den wa wb : Int) (w : World) (hl : validL num den) (hw : ¬ validW wa wb) (hd : clip b < clip a) (hz : num = 0) :
    Calls Try.prog 8 #[.int .i64 a, .int .i64 b, .int .i64 num, .int .i64 den, .int .i64 wa, .int .i64 wb] w fun e w' => e = .returned (.bool true) ∧ Below w.heap.size w w' := by
  subst hz
  have hb := Below.refl w.heap.size w
  obtain ⟨h1, h2, h3, h4⟩ := id hl
  have hld : validL den den := ⟨h1, h2, by omega, by omega⟩
  have hk : validW 5 5 := ⟨by omega, by omega, by omega, by omega⟩
  have f1 := lineV_0 a b den
  have f2 := lineV_d a b den h1
  have f3 := bend55 a b 0 den h1
  have f4 : (lineV a b 0 den != clip a) = false := by simp [f1]
  have f5 : (lineV a b den den != clip b) = false := by simp [f2]
  have b1 := line_in (a := clip a) (b := clip b) h1 h3 h4
  have b2 : min (clip a) (clip b) ≤ lineV a b 0 den ∧ lineV a b 0 den ≤ max (clip a) (clip b) := b1
  clear b1
  have g1 : lineV a b 0 den ≤ clip a := by omega
  have g2 : clip a ≤ lineV a b 0 den := by omega
  have g3 : lineV a b den den ≤ clip b := by omega
  have g4 : clip b ≤ lineV a b den den := by omega
  clear f1 f2
  have HW := Lib.hid hw; clear hw
  go_enter Try.func8, Try.ntmps8
  go_wp2_with (first | (go_at_call 10; refine (sane_any _).mono ?_; rintro e w2 ⟨rfl, hn⟩; replace hb := below_after hb hn hb.size; clear hn) | (go_at_call 19; refine (line_yes (by first | exact hl | exact hld)).mono ?_; rintro e w2 ⟨rfl, hn⟩; replace hb := below_after hb hn hb.size; clear hn) | (go_at_call 21; refine (bend_yes (by exact hl) (by exact hk)).mono ?_; rintro e w2 ⟨rfl, hn⟩; replace hb := below_after hb hn hb.size; clear hn) | (go_at_call 21; refine (bend_no _ _ _ _ _ _ _ (.inr HW.out)).mono ?_; rintro e w2 ⟨rfl, hn⟩; replace hb := below_after hb hn hb.size; clear hn) | (go_at_call 11; refine (clip_any _ _).mono ?_; rintro e w' ⟨rfl, rfl⟩))
  all_goals (go_ret; exact ⟨by simp, hb⟩)

set_option maxRecDepth 100000 in
set_option maxHeartbeats 4000000 in
theorem fixedEnds_ndp (a b num den wa wb : Int) (w : World) (hl : validL num den) (hw : ¬ validW wa wb) (hd : clip b < clip a) (hz : 1 ≤ num) :
    Calls Try.prog 8 #[.int .i64 a, .int .i64 b, .int .i64 num, .int .i64 den, .int .i64 wa, .int .i64 wb] w fun e w' => e = .returned (.bool true) ∧ Below w.heap.size w w' := by
  have hb := Below.refl w.heap.size w
  obtain ⟨h1, h2, h3, h4⟩ := id hl
  have hl0 : validL 0 den := ⟨h1, h2, by omega, by omega⟩
  have hld : validL den den := ⟨h1, h2, by omega, by omega⟩
  have hk : validW 5 5 := ⟨by omega, by omega, by omega, by omega⟩
  have f1 := lineV_0 a b den
  have f2 := lineV_d a b den h1
  have f3 := bend55 a b num den h1
  have f4 : (lineV a b 0 den != clip a) = false := by simp [f1]
  have f5 : (lineV a b den den != clip b) = false := by simp [f2]
  have b1 := line_in (a := clip a) (b := clip b) h1 h3 h4
  have b2 : min (clip a) (clip b) ≤ lineV a b num den ∧ lineV a b num den ≤ max (clip a) (clip b) := b1
  clear b1
  have g1 : lineV a b 0 den ≤ clip a := by omega
  have g2 : clip a ≤ lineV a b 0 den := by omega
  have g3 : lineV a b den den ≤ clip b := by omega
  have g4 : clip b ≤ lineV a b den den := by omega
  clear f1 f2
  have HW := Lib.hid hw; clear hw
  have hlm : validL (num - 1) den := ⟨h1, h2, by omega, by omega⟩
  have nz : (num == 0) = false := by simp; omega
  have m1 := lineV_down a b num den h1 (by omega)
  go_enter Try.func8, Try.ntmps8
  go_wp2_with (first | (go_at_call 10; refine (sane_any _).mono ?_; rintro e w2 ⟨rfl, hn⟩; replace hb := below_after hb hn hb.size; clear hn) | (go_at_call 19; refine (line_yes (by first | exact hl | exact hl0 | exact hld | exact hlm)).mono ?_; rintro e w2 ⟨rfl, hn⟩; replace hb := below_after hb hn hb.size; clear hn) | (go_at_call 21; refine (bend_yes (by exact hl) (by exact hk)).mono ?_; rintro e w2 ⟨rfl, hn⟩; replace hb := below_after hb hn hb.size; clear hn) | (go_at_call 21; refine (bend_no _ _ _ _ _ _ _ (.inr HW.out)).mono ?_; rintro e w2 ⟨rfl, hn⟩; replace hb := below_after hb hn hb.size; clear hn) | (go_at_call 11; refine (clip_any _ _).mono ?_; rintro e w' ⟨rfl, rfl⟩))
  all_goals (go_ret; exact ⟨by simp, hb⟩)

theorem fixedEnds_walk (a b num den wa wb : Int) (w : World) :
    Calls Try.prog 8 #[.int .i64 a, .int .i64 b, .int .i64 num, .int .i64 den, .int .i64 wa, .int .i64 wb] w fun e w' => e = .returned (.bool true) ∧ Below w.heap.size w w' := by
  by_cases hl : validL num den
  · have h3 := hl.2.2.1
    by_cases hw : validW wa wb <;> by_cases hd : clip a ≤ clip b <;> by_cases hz : num = 0
    · exact fixedEnds_yuz _ _ _ _ _ _ _ hl hw hd hz
    · exact fixedEnds_yup _ _ _ _ _ _ _ hl hw hd (by omega)
    · exact fixedEnds_ydz _ _ _ _ _ _ _ hl hw (by omega) hz
    · exact fixedEnds_ydp _ _ _ _ _ _ _ hl hw (by omega) (by omega)
    · exact fixedEnds_nuz _ _ _ _ _ _ _ hl hw hd hz
    · exact fixedEnds_nup _ _ _ _ _ _ _ hl hw hd (by omega)
    · exact fixedEnds_ndz _ _ _ _ _ _ _ hl hw (by omega) hz
    · exact fixedEnds_ndp _ _ _ _ _ _ _ hl hw (by omega) (by omega)
  · exact fixedEnds_bad _ _ _ _ _ _ _ hl
end Go.Proofs.Ytcljkjachaecoaa
