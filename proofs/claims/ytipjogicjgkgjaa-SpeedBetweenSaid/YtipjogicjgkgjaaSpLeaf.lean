/- Leaf contracts of layer 26 (speed): numbers and lines. -/
import Derived.Test.YtipjogicjgkgjaaBase
import Derived.Test.YtipjogicjgkgjaaWithin
import Derived.Test.YtipjogicjgkgjaaOwn
namespace Go.Proofs.Ytipjogicjgkgjaa
open Go.ChangeShapes Go.WideShapes Go.ChangeAt Go.RowKit

def clip (x : Int) : Int := max (-2147483648) (min x 2147483647)
theorem clip_lo (x : Int) : -2147483648 ≤ clip x := by unfold clip; omega
theorem clip_hi (x : Int) : clip x ≤ 2147483647 := by unfold clip; omega

theorem hold_any (v lo hi : Int) (w : World) :
    Calls Try.prog 28 #[.int .i64 v, .int .i64 lo, .int .i64 hi] w fun e w' => e = .returned (.int .i64 (max lo (min v hi))) ∧ w = w' := by
  go_enter Try.func28, Try.ntmps28
  go_wp2
  all_goals (go_ret; exact ⟨ret_int (by omega), rfl⟩)

theorem clip_any (x : Int) (w : World) :
    Calls Try.prog 19 #[.int .i64 x] w fun e w' => e = .returned (.int .i64 (clip x)) ∧ w = w' := by
  go_enter Try.func19, Try.ntmps19
  go_wp2_with (go_at_call 28; refine (hold_any _ _ _ _).mono ?_; rintro e w' ⟨rfl, rfl⟩)
  go_ret
  exact ⟨rfl, rfl⟩

theorem rclip_any (x : Int) (w : World) :
    Calls Try.prog 31 #[.int .i64 x] w fun e w' => e = .returned (.int .i64 (clip x)) ∧ w = w' := by
  go_enter Try.func31, Try.ntmps31
  go_wp2
  all_goals (go_ret; exact ⟨ret_int (by unfold clip; omega), rfl⟩)

theorem div_any (a b : Int) (w : World) (hb : 0 < b) (hb2 : b ≤ 9223372036854775807) (ha1 : -9223372036854775808 ≤ a) (ha2 : a ≤ 9223372036854775807) :
    Calls Try.prog 36 #[.int .i64 a, .int .i64 b] w fun e w' => e = .returned (.int .i64 (a / b)) ∧ w = w' := by
  have hq := ediv_in hb ha1 ha2 (by omega) (by omega)
  go_enter Try.func36, Try.ntmps36
  go_wp2
  · have h : a.tmod b < 0 := by assumption
    have e := tdiv_low hb h
    go_ret
    exact ⟨ret_int (by rw [IntWalk.wrap64_in _ (by omega)]; exact e), rfl⟩
  · have h : 0 ≤ a.tmod b := by assumption
    have e := tdiv_high hb h
    go_ret
    exact ⟨ret_int e, rfl⟩

theorem rfloor_any (a b : Int) (w : World) (hb : 0 < b) (hb2 : b ≤ 9223372036854775807) (ha1 : -9223372036854775808 ≤ a) (ha2 : a ≤ 9223372036854775807) :
    Calls Try.prog 37 #[.int .i64 a, .int .i64 b] w fun e w' => e = .returned (.int .i64 (a / b)) ∧ w = w' := by
  have hq := ediv_in hb ha1 ha2 (by omega) (by omega)
  go_enter Try.func37, Try.ntmps37
  go_wp2
  · have h : a.tmod b < 0 := by assumption
    have e := tdiv_low hb h
    go_ret
    exact ⟨ret_int (by rw [IntWalk.wrap64_in _ (by omega)]; exact e), rfl⟩
  · have h : 0 ≤ a.tmod b := by assumption
    have e := tdiv_high hb h
    go_ret
    exact ⟨ret_int e, rfl⟩

def lineV (a b num den : Int) : Int := clip a + (clip b - clip a) * num / den
theorem mul_bd {x y X Y : Int} (h1 : -X ≤ x) (h2 : x ≤ X) (h3 : 0 ≤ y) (h4 : y ≤ Y) (hX : 0 ≤ X) : -(X * Y) ≤ x * y ∧ x * y ≤ X * Y := by
  have a1 : x * y ≤ X * y := Int.mul_le_mul_of_nonneg_right h2 h3
  have a2 : X * y ≤ X * Y := Int.mul_le_mul_of_nonneg_left h4 hX
  have a3 : -X * y ≤ x * y := Int.mul_le_mul_of_nonneg_right h1 h3
  rw [Int.neg_mul] at a3
  omega

theorem line_in {a b num den : Int} (h1 : 1 ≤ den) (h3 : 0 ≤ num) (h4 : num ≤ den) : min a b ≤ a + (b - a) * num / den ∧ a + (b - a) * num / den ≤ max a b := by
  have k1 : (b - a) * num ≤ (max a b - a) * num := Int.mul_le_mul_of_nonneg_right (by omega) h3
  have k2 : (max a b - a) * num ≤ (max a b - a) * den := Int.mul_le_mul_of_nonneg_left h4 (by omega)
  have k3 : (min a b - a) * num ≤ (b - a) * num := Int.mul_le_mul_of_nonneg_right (by omega) h3
  have k4 : (min a b - a) * den ≤ (min a b - a) * num := Int.mul_le_mul_of_nonpos_left (by omega) h4
  have d1 : min a b - a ≤ (b - a) * num / den := by rw [Int.le_ediv_iff_mul_le (by omega)]; omega
  have d2 : (b - a) * num / den ≤ max a b - a := by
    have : (b - a) * num / den ≤ (max a b - a) * den / den := Int.ediv_le_ediv (by omega) (by omega)
    rwa [Int.mul_ediv_cancel _ (by omega)] at this
  omega

theorem line1_any (a b num den : Int) (p q : Nat) (w : World) (h1 : 1 ≤ den) (h2 : den ≤ 16777216) (h3 : 0 ≤ num) (h4 : num ≤ den)
    (la : -2147483648 ≤ a) (ha : a ≤ 2147483647) (lb : -2147483648 ≤ b) (hb : b ≤ 2147483647)
    (hp : w.cell? ⟨p, 0, none⟩ = some (.int .i64 num)) (hq : w.cell? ⟨q, 0, none⟩ = some (.int .i64 den)) :
    Calls Try.prog 35 #[.int .i64 a, .int .i64 b, .pointer (some ⟨p, 0, none⟩), .pointer (some ⟨q, 0, none⟩)] w fun e w' => e = .returned (.int .i64 (a + (b - a) * num / den)) ∧ w = w' := by
  have m := mul_bd (x := b - a) (y := num) (X := 4294967296) (Y := 16777216) (by omega) (by omega) h3 (by omega) (by omega)
  have d := line_in (a := a) (b := b) h1 h3 h4
  go_enter Try.func35, Try.ntmps35
  go_wp2_with (go_at_call 36; refine (div_any _ _ _ (by omega) (by omega) (by omega) (by omega)).mono ?_; rintro e w' ⟨rfl, rfl⟩)
  go_ret
  exact ⟨rfl, rfl⟩

theorem between_line (a b num den : Int) (p q : Nat) (w : World) (h1 : 1 ≤ den) (h2 : den ≤ 16777216) (h3 : 0 ≤ num) (h4 : num ≤ den)
    (hp : w.cell? ⟨p, 0, none⟩ = some (.int .i64 num)) (hq : w.cell? ⟨q, 0, none⟩ = some (.int .i64 den)) :
    Calls Try.prog 34 #[.int .i64 a, .int .i64 b, .int .i64 num, .int .i64 den, .func (.func 35) #[] #[.pointer (some ⟨p, 0, none⟩), .pointer (some ⟨q, 0, none⟩)]] w fun e w' => e = .returned (.tuple #[.int .i64 (lineV a b num den), .int .i64 0]) ∧ w = w' := by
  have l1 := clip_lo a; have l2 := clip_hi a; have l3 := clip_lo b; have l4 := clip_hi b
  have hw1 := within_t (v := den) (lo := 1) (hi := 16777216) ⟨h1, h2⟩
  have hw2 := within_t (v := num) (lo := 0) (hi := den) ⟨h3, h4⟩
  go_enter Try.func34, Try.ntmps34
  go_wp2_with (first | (go_at_call 21; refine (within_any _ _ _ _).mono ?_; rintro e w' ⟨rfl, rfl⟩) | (go_at_call 19; refine (clip_any _ _).mono ?_; rintro e w' ⟨rfl, rfl⟩) | (go_at_call 35; refine (line1_any _ _ _ _ _ _ _ h1 h2 h3 h4 l1 l2 l3 l4 hp hq).mono ?_; rintro e w' ⟨rfl, rfl⟩))
  go_ret2
  exact ⟨rfl, rfl⟩

set_option maxHeartbeats 400000 in
theorem line_ok (a b num den : Int) (w : World) (h1 : 1 ≤ den) (h2 : den ≤ 16777216) (h3 : 0 ≤ num) (h4 : num ≤ den) :
    Calls Try.prog 30 #[.int .i64 a, .int .i64 b, .int .i64 num, .int .i64 den] w fun e w' => e = .returned (.tuple #[.int .i64 (lineV a b num den), .int .i64 0]) ∧ Below w.heap.size w w' := by
  go_enter Try.func30, Try.ntmps30
  go_wp2_with (go_at_call 34; refine (between_line _ _ _ _ _ _ _ h1 h2 h3 h4 (by go_cell) (by go_cell)).mono ?_; rintro e w' ⟨rfl, rfl⟩)
  go_ret2
  exact ⟨rfl, by go_grown⟩

theorem not_within {v lo hi : Int} (h : within v lo hi = false) : ¬ (lo ≤ v ∧ v ≤ hi) := by unfold within at h; simpa using h

set_option maxHeartbeats 400000 in
theorem between_no (a b num den : Int) (f : Value) (w : World) (h : ¬ (1 ≤ den ∧ den ≤ 16777216 ∧ 0 ≤ num ∧ num ≤ den)) :
    Calls Try.prog 34 #[.int .i64 a, .int .i64 b, .int .i64 num, .int .i64 den, f] w fun e w' => e = .returned (.tuple #[.int .i64 0, .int .i64 1]) ∧ w = w' := by
  by_cases hd : 1 ≤ den ∧ den ≤ 16777216
  · have hw1 := within_t (v := den) (lo := 1) (hi := 16777216) hd
    have hw2 := within_f (v := num) (lo := 0) (hi := den) (by omega)
    clear h hd
    go_enter Try.func34, Try.ntmps34
    go_wp2_with (first | (go_at_call 21; refine (within_any _ _ _ _).mono ?_; rintro e w' ⟨rfl, rfl⟩))
    go_ret2
    exact ⟨rfl, rfl⟩
  · have hw1 := within_f (v := den) (lo := 1) (hi := 16777216) hd
    clear h hd
    go_enter Try.func34, Try.ntmps34
    go_wp2_with (first | (go_at_call 21; refine (within_any _ _ _ _).mono ?_; rintro e w' ⟨rfl, rfl⟩))
    go_ret2
    exact ⟨rfl, rfl⟩

set_option maxHeartbeats 400000 in
theorem line_no (a b num den : Int) (w : World) (h : ¬ (1 ≤ den ∧ den ≤ 16777216 ∧ 0 ≤ num ∧ num ≤ den)) :
    Calls Try.prog 30 #[.int .i64 a, .int .i64 b, .int .i64 num, .int .i64 den] w fun e w' => e = .returned (.tuple #[.int .i64 0, .int .i64 1]) ∧ Below w.heap.size w w' := by
  have H := Lib.hid h; clear h
  go_enter Try.func30, Try.ntmps30
  go_wp2_with (go_at_call 34; refine (between_no _ _ _ _ _ _ H.out).mono ?_; rintro e w' ⟨rfl, rfl⟩)
  go_ret2
  exact ⟨rfl, by go_grown⟩

set_option maxHeartbeats 800000 in
theorem rline_any (a b num den : Int) (w : World) (n1 : -9223372036854775808 ≤ num) (d2 : den ≤ 9223372036854775807) :
    Calls Try.prog 32 #[.int .i64 a, .int .i64 b, .int .i64 num, .int .i64 den] w fun e w' => e = .returned (if 1 ≤ den ∧ den ≤ 16777216 ∧ 0 ≤ num ∧ num ≤ den then .tuple #[.int .i64 (lineV a b num den), .int .i64 0] else .tuple #[.int .i64 0, .int .i64 1]) ∧ w = w' := by
  have l1 := clip_lo a; have l2 := clip_hi a; have l3 := clip_lo b; have l4 := clip_hi b
  by_cases hl : 1 ≤ den ∧ den ≤ 16777216 ∧ 0 ≤ num ∧ num ≤ den
  · rw [if_pos hl]
    obtain ⟨h1, h2, h3, h4⟩ := hl
    have m := mul_bd (x := clip b - clip a) (y := num) (X := 4294967296) (Y := 16777216) (by omega) (by omega) h3 (by omega) (by omega)
    have d := line_in (a := clip a) (b := clip b) h1 h3 h4
    go_enter Try.func32, Try.ntmps32
    go_wp2_with (first | (go_at_call 31; refine (rclip_any _ _).mono ?_; rintro e w' ⟨rfl, rfl⟩) | (go_at_call 37; refine (rfloor_any _ _ _ (by omega) (by omega) (by omega) (by omega)).mono ?_; rintro e w' ⟨rfl, rfl⟩))
    go_ret2
    exact ⟨rfl, rfl⟩
  · rw [if_neg hl]
    have H := Lib.hid hl; clear hl
    go_enter Try.func32, Try.ntmps32
    go_wp2_with (first | (go_at_call 31; refine (rclip_any _ _).mono ?_; rintro e w' ⟨rfl, rfl⟩))
    all_goals first | (go_ret2; exact ⟨rfl, rfl⟩) | (exfalso; have := H.out; omega)


theorem rline_ok (a b num den : Int) (w : World) (h : 1 ≤ den ∧ den ≤ 16777216 ∧ 0 ≤ num ∧ num ≤ den) :
    Calls Try.prog 32 #[.int .i64 a, .int .i64 b, .int .i64 num, .int .i64 den] w fun e w' => e = .returned (.tuple #[.int .i64 (lineV a b num den), .int .i64 0]) ∧ w = w' := by
  have := rline_any a b num den w (by omega) (by omega)
  rwa [if_pos h] at this
end Go.Proofs.Ytipjogicjgkgjaa
