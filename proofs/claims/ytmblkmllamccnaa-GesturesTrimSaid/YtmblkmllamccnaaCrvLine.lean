/- Contracts of Line and Bend (layer 8). -/
import Derived.Test.YtmblkmllamccnaaCrvLeaf
import Derived.Deep.QuietTactic
import Derived.BigQuiet
import Derived.Lib.Hide
import Derived.WalkSmall
namespace Go.Proofs.Ytmblkmllamccnaa
open Go.ChangeShapes Go.WideShapes Go.ChangeAt Go.RowKit

def lineV (a b num den : Int) : Int := clip a + (clip b - clip a) * num / den
theorem mul_bd {x y X Y : Int} (h1 : -X ≤ x) (h2 : x ≤ X) (h3 : 0 ≤ y) (h4 : y ≤ Y) (hX : 0 ≤ X) : -(X * Y) ≤ x * y ∧ x * y ≤ X * Y := by
  have a1 : x * y ≤ X * y := Int.mul_le_mul_of_nonneg_right h2 h3
  have a2 : X * y ≤ X * Y := Int.mul_le_mul_of_nonneg_left h4 hX
  have a3 : -X * y ≤ x * y := Int.mul_le_mul_of_nonneg_right h1 h3
  rw [Int.neg_mul] at a3
  omega

theorem line_in {a b num den : Int} (h1 : 1 ≤ den) (h3 : 0 ≤ num) (h4 : num ≤ den) : min a b ≤ a + (b - a) * num / den ∧ a + (b - a) * num / den ≤ max a b := by
  have k1 : (b - a) * num ≤ (max a b - a) * num := Int.mul_le_mul_of_nonneg_right (by omega) h3
  have k2 : (max a b - a) * num ≤ (max a b - a) * den := Int.mul_le_mul_of_nonneg_left h4 (by omega)
  have k3 : (min a b - a) * num ≤ (b - a) * num := Int.mul_le_mul_of_nonneg_right (by omega) h3
  have k4 : (min a b - a) * den ≤ (min a b - a) * num := Int.mul_le_mul_of_nonpos_left (by omega) h4
  have d1 : min a b - a ≤ (b - a) * num / den := by rw [Int.le_ediv_iff_mul_le (by omega)]; omega
  have d2 : (b - a) * num / den ≤ max a b - a := by
    have : (b - a) * num / den ≤ (max a b - a) * den / den := Int.ediv_le_ediv (by omega) (by omega)
    rwa [Int.mul_ediv_cancel _ (by omega)] at this
  omega

theorem line1_any (a b num den : Int) (p q : Nat) (w : World) (h1 : 1 ≤ den) (h2 : den ≤ 16777216) (h3 : 0 ≤ num) (h4 : num ≤ den)
    (la : -2147483648 ≤ a) (ha : a ≤ 2147483647) (lb : -2147483648 ≤ b) (hb : b ≤ 2147483647)
    (hp : w.cell? ⟨p, 0, none⟩ = some (.int .i64 num)) (hq : w.cell? ⟨q, 0, none⟩ = some (.int .i64 den)) :
    Calls Try.prog 62 #[.int .i64 a, .int .i64 b, .pointer (some ⟨p, 0, none⟩), .pointer (some ⟨q, 0, none⟩)] w fun e w' => e = .returned (.int .i64 (a + (b - a) * num / den)) ∧ w = w' := by
  have m := mul_bd (x := b - a) (y := num) (X := 4294967296) (Y := 16777216) (by omega) (by omega) h3 (by omega) (by omega)
  have d := line_in (a := a) (b := b) h1 h3 h4
  go_enter Try.func62, Try.ntmps62
  go_wp2_with (go_at_call 63; refine (div_any _ _ _ (by omega) (by omega) (by omega) (by omega)).mono ?_; rintro e w' ⟨rfl, rfl⟩)
  go_ret
  exact ⟨rfl, rfl⟩

theorem between_line (a b num den : Int) (p q : Nat) (w : World) (h1 : 1 ≤ den) (h2 : den ≤ 16777216) (h3 : 0 ≤ num) (h4 : num ≤ den)
    (hp : w.cell? ⟨p, 0, none⟩ = some (.int .i64 num)) (hq : w.cell? ⟨q, 0, none⟩ = some (.int .i64 den)) :
    Calls Try.prog 61 #[.int .i64 a, .int .i64 b, .int .i64 num, .int .i64 den, .func (.func 62) #[] #[.pointer (some ⟨p, 0, none⟩), .pointer (some ⟨q, 0, none⟩)]] w fun e w' => e = .returned (.tuple #[.int .i64 (lineV a b num den), .int .i64 0]) ∧ w = w' := by
  have l1 := clip_lo a; have l2 := clip_hi a; have l3 := clip_lo b; have l4 := clip_hi b
  have hw1 := within_t (v := den) (lo := 1) (hi := 16777216) ⟨h1, h2⟩
  have hw2 := within_t (v := num) (lo := 0) (hi := den) ⟨h3, h4⟩
  go_enter Try.func61, Try.ntmps61
  go_wp2_with (first | (go_at_call 29; refine (within_any _ _ _ _).mono ?_; rintro e w' ⟨rfl, rfl⟩) | (go_at_call 51; refine (clip_any _ _).mono ?_; rintro e w' ⟨rfl, rfl⟩) | (go_at_call 62; refine (line1_any _ _ _ _ _ _ _ h1 h2 h3 h4 l1 l2 l3 l4 hp hq).mono ?_; rintro e w' ⟨rfl, rfl⟩))
  go_ret2
  exact ⟨rfl, rfl⟩

set_option maxHeartbeats 400000 in
theorem line_ok (a b num den : Int) (w : World) (h1 : 1 ≤ den) (h2 : den ≤ 16777216) (h3 : 0 ≤ num) (h4 : num ≤ den) :
    Calls Try.prog 57 #[.int .i64 a, .int .i64 b, .int .i64 num, .int .i64 den] w fun e w' => e = .returned (.tuple #[.int .i64 (lineV a b num den), .int .i64 0]) ∧ Below w.heap.size w w' := by
  go_enter Try.func57, Try.ntmps57
  go_wp2_with (go_at_call 61; refine (between_line _ _ _ _ _ _ _ h1 h2 h3 h4 (by go_cell) (by go_cell)).mono ?_; rintro e w' ⟨rfl, rfl⟩)
  go_ret2
  exact ⟨rfl, by go_grown⟩

theorem not_within {v lo hi : Int} (h : within v lo hi = false) : ¬ (lo ≤ v ∧ v ≤ hi) := by unfold within at h; simpa using h

set_option maxHeartbeats 400000 in
theorem between_no (a b num den : Int) (f : Value) (w : World) (h : ¬ (1 ≤ den ∧ den ≤ 16777216 ∧ 0 ≤ num ∧ num ≤ den)) :
    Calls Try.prog 61 #[.int .i64 a, .int .i64 b, .int .i64 num, .int .i64 den, f] w fun e w' => e = .returned (.tuple #[.int .i64 0, .int .i64 1]) ∧ w = w' := by
  by_cases hd : 1 ≤ den ∧ den ≤ 16777216
  · have hw1 := within_t (v := den) (lo := 1) (hi := 16777216) hd
    have hw2 := within_f (v := num) (lo := 0) (hi := den) (by omega)
    clear h hd
    go_enter Try.func61, Try.ntmps61
    go_wp2_with (first | (go_at_call 29; refine (within_any _ _ _ _).mono ?_; rintro e w' ⟨rfl, rfl⟩))
    go_ret2
    exact ⟨rfl, rfl⟩
  · have hw1 := within_f (v := den) (lo := 1) (hi := 16777216) hd
    clear h hd
    go_enter Try.func61, Try.ntmps61
    go_wp2_with (first | (go_at_call 29; refine (within_any _ _ _ _).mono ?_; rintro e w' ⟨rfl, rfl⟩))
    go_ret2
    exact ⟨rfl, rfl⟩

set_option maxHeartbeats 400000 in
theorem line_no (a b num den : Int) (w : World) (h : ¬ (1 ≤ den ∧ den ≤ 16777216 ∧ 0 ≤ num ∧ num ≤ den)) :
    Calls Try.prog 57 #[.int .i64 a, .int .i64 b, .int .i64 num, .int .i64 den] w fun e w' => e = .returned (.tuple #[.int .i64 0, .int .i64 1]) ∧ Below w.heap.size w w' := by
  have H := Lib.hid h; clear h
  go_enter Try.func57, Try.ntmps57
  go_wp2_with (go_at_call 61; refine (between_no _ _ _ _ _ _ H.out).mono ?_; rintro e w' ⟨rfl, rfl⟩)
  go_ret2
  exact ⟨rfl, by go_grown⟩

def bendV (a b num den wa wb : Int) : Int := (clip a * (wa * (den - num)) + clip b * (wb * num)) / (wa * (den - num) + wb * num)
theorem bend_sum {num den wa wb : Int} (h1 : 1 ≤ den) (h2 : den ≤ 16777216) (h3 : 0 ≤ num) (h4 : num ≤ den) (a1 : 1 ≤ wa) (a2 : wa ≤ 16) (b1 : 1 ≤ wb) (b2 : wb ≤ 16) :
    0 ≤ wa * (den - num) ∧ wa * (den - num) ≤ 268435456 ∧ 0 ≤ wb * num ∧ wb * num ≤ 268435456 ∧ 0 < wa * (den - num) + wb * num := by
  have m1 : 1 * (den - num) ≤ wa * (den - num) := Int.mul_le_mul_of_nonneg_right a1 (by omega)
  have m2 : 1 * num ≤ wb * num := Int.mul_le_mul_of_nonneg_right b1 (by omega)
  have m3 : wa * (den - num) ≤ 16 * (den - num) := Int.mul_le_mul_of_nonneg_right a2 (by omega)
  have m4 : wb * num ≤ 16 * num := Int.mul_le_mul_of_nonneg_right b2 (by omega)
  omega

set_option maxHeartbeats 400000 in
theorem bend1_any (a b num den wa wb : Int) (p q r t : Nat) (w : World) (h1 : 1 ≤ den) (h2 : den ≤ 16777216) (h3 : 0 ≤ num) (h4 : num ≤ den)
    (a1 : 1 ≤ wa) (a2 : wa ≤ 16) (b1 : 1 ≤ wb) (b2 : wb ≤ 16) (la : -2147483648 ≤ a) (ha : a ≤ 2147483647) (lb : -2147483648 ≤ b) (hb : b ≤ 2147483647)
    (hp : w.cell? ⟨p, 0, none⟩ = some (.int .i64 wa)) (hq : w.cell? ⟨q, 0, none⟩ = some (.int .i64 den)) (hr : w.cell? ⟨r, 0, none⟩ = some (.int .i64 num)) (ht : w.cell? ⟨t, 0, none⟩ = some (.int .i64 wb)) :
    Calls Try.prog 64 #[.int .i64 a, .int .i64 b, .pointer (some ⟨p, 0, none⟩), .pointer (some ⟨q, 0, none⟩), .pointer (some ⟨r, 0, none⟩), .pointer (some ⟨t, 0, none⟩)] w fun e w' => e = .returned (.int .i64 ((a * (wa * (den - num)) + b * (wb * num)) / (wa * (den - num) + wb * num))) ∧ Below w.heap.size w w' := by
  have s := bend_sum h1 h2 h3 h4 a1 a2 b1 b2
  have m1 := mul_bd (x := a) (y := wa * (den - num)) (X := 2147483648) (Y := 268435456) (by omega) (by omega) (by omega) (by omega) (by omega)
  have m2 := mul_bd (x := b) (y := wb * num) (X := 2147483648) (Y := 268435456) (by omega) (by omega) (by omega) (by omega) (by omega)
  go_enter Try.func64, Try.ntmps64
  go_wp2
  go_quiet (fail)
  go_wp2_with (go_at_call 63; refine (div_any _ _ _ (by omega) (by omega) (by omega) (by omega)).mono ?_; rintro e w' ⟨rfl, rfl⟩)
  go_ret
  exact ⟨rfl, below_drewN (Below.refl _ _) _⟩

set_option maxHeartbeats 400000 in
theorem between_bend (a b num den wa wb : Int) (p q r t : Nat) (w : World) (h1 : 1 ≤ den) (h2 : den ≤ 16777216) (h3 : 0 ≤ num) (h4 : num ≤ den)
    (a1 : 1 ≤ wa) (a2 : wa ≤ 16) (b1 : 1 ≤ wb) (b2 : wb ≤ 16)
    (hp : w.cell? ⟨p, 0, none⟩ = some (.int .i64 wa)) (hq : w.cell? ⟨q, 0, none⟩ = some (.int .i64 den)) (hr : w.cell? ⟨r, 0, none⟩ = some (.int .i64 num)) (ht : w.cell? ⟨t, 0, none⟩ = some (.int .i64 wb)) :
    Calls Try.prog 61 #[.int .i64 a, .int .i64 b, .int .i64 num, .int .i64 den, .func (.func 64) #[] #[.pointer (some ⟨p, 0, none⟩), .pointer (some ⟨q, 0, none⟩), .pointer (some ⟨r, 0, none⟩), .pointer (some ⟨t, 0, none⟩)]] w fun e w' => e = .returned (.tuple #[.int .i64 (bendV a b num den wa wb), .int .i64 0]) ∧ Below w.heap.size w w' := by
  have l1 := clip_lo a; have l2 := clip_hi a; have l3 := clip_lo b; have l4 := clip_hi b
  have hw1 := within_t (v := den) (lo := 1) (hi := 16777216) ⟨h1, h2⟩
  have hw2 := within_t (v := num) (lo := 0) (hi := den) ⟨h3, h4⟩
  go_enter Try.func61, Try.ntmps61
  go_wp2_with (first | (go_at_call 29; refine (within_any _ _ _ _).mono ?_; rintro e w' ⟨rfl, rfl⟩) | (go_at_call 51; refine (clip_any _ _).mono ?_; rintro e w' ⟨rfl, rfl⟩) | (go_at_call 64; refine (bend1_any _ _ _ _ _ _ _ _ _ _ _ h1 h2 h3 h4 a1 a2 b1 b2 l1 l2 l3 l4 hp hq hr ht).mono ?_; rintro e w' ⟨rfl, hb⟩))
  go_ret2
  exact ⟨rfl, hb⟩

set_option maxHeartbeats 400000 in
theorem bend_ok (a b num den wa wb : Int) (w : World) (h1 : 1 ≤ den) (h2 : den ≤ 16777216) (h3 : 0 ≤ num) (h4 : num ≤ den) (a1 : 1 ≤ wa) (a2 : wa ≤ 16) (b1 : 1 ≤ wb) (b2 : wb ≤ 16) :
    Calls Try.prog 58 #[.int .i64 a, .int .i64 b, .int .i64 num, .int .i64 den, .int .i64 wa, .int .i64 wb] w fun e w' => e = .returned (.tuple #[.int .i64 (bendV a b num den wa wb), .int .i64 0]) ∧ Below w.heap.size w w' := by
  have hw1 := within_t (v := wa) (lo := 1) (hi := 16) ⟨a1, a2⟩
  have hw2 := within_t (v := wb) (lo := 1) (hi := 16) ⟨b1, b2⟩
  go_enter Try.func58, Try.ntmps58
  go_wp2_with (first | (go_at_call 57; refine (line_ok _ _ _ _ _ h1 h2 h3 h4).mono ?_; rintro e w1 ⟨rfl, hb1⟩; obtain ⟨hc, hf⟩ := bcell hb1) | (go_at_call 29; refine (within_any _ _ _ _).mono ?_; rintro e w' ⟨rfl, rfl⟩) | (go_at_call 61; refine (between_bend _ _ _ _ _ _ _ _ _ _ _ h1 h2 h3 h4 a1 a2 b1 b2 ?_ ?_ ?_ ?_).mono ?_; rotate_left 4; rintro e w' ⟨rfl, hb2⟩))
  · have z := hb1.size
    simp at z
    go_ret2
    exact ⟨rfl, below_after (below_after (by go_grown) hb1 (by simp; omega)) hb2 (by omega)⟩
  all_goals (refine (hc _ _ (by simp <;> omega)).trans ?_; simp (disch := first | omega | (simp only [World.size_alloc]; done) | (simp only [World.size_alloc]; omega)) only [World.cell?_alloc_at, World.cell?_alloc_past]; rfl)

set_option maxHeartbeats 400000 in
theorem bend_no (a b num den wa wb : Int) (w : World) (h : ¬ (1 ≤ den ∧ den ≤ 16777216 ∧ 0 ≤ num ∧ num ≤ den) ∨ ¬ (1 ≤ wa ∧ wa ≤ 16 ∧ 1 ≤ wb ∧ wb ≤ 16)) :
    Calls Try.prog 58 #[.int .i64 a, .int .i64 b, .int .i64 num, .int .i64 den, .int .i64 wa, .int .i64 wb] w fun e w' => e = .returned (.tuple #[.int .i64 0, .int .i64 1]) ∧ Below w.heap.size w w' := by
  by_cases hl : 1 ≤ den ∧ den ≤ 16777216 ∧ 0 ≤ num ∧ num ≤ den
  · obtain ⟨h1, h2, h3, h4⟩ := hl
    by_cases ha : 1 ≤ wa ∧ wa ≤ 16
    · have hw1 := within_t (v := wa) (lo := 1) (hi := 16) ha
      have hw2 := within_f (v := wb) (lo := 1) (hi := 16) (by omega)
      clear h ha
      go_enter Try.func58, Try.ntmps58
      go_wp2_with (first | (go_at_call 57; refine (line_ok _ _ _ _ _ h1 h2 h3 h4).mono ?_; rintro e w1 ⟨rfl, hb1⟩; obtain ⟨hc, hf⟩ := bcell hb1) | (go_at_call 29; refine (within_any _ _ _ _).mono ?_; rintro e w' ⟨rfl, rfl⟩))
      go_ret2
      exact ⟨rfl, below_after (by go_grown) hb1 (by simp; omega)⟩
    · have hw1 := within_f (v := wa) (lo := 1) (hi := 16) ha
      clear h ha
      go_enter Try.func58, Try.ntmps58
      go_wp2_with (first | (go_at_call 57; refine (line_ok _ _ _ _ _ h1 h2 h3 h4).mono ?_; rintro e w1 ⟨rfl, hb1⟩; obtain ⟨hc, hf⟩ := bcell hb1) | (go_at_call 29; refine (within_any _ _ _ _).mono ?_; rintro e w' ⟨rfl, rfl⟩))
      go_ret2
      exact ⟨rfl, below_after (by go_grown) hb1 (by simp; omega)⟩
  · have H := Lib.hid hl; clear hl h
    go_enter Try.func58, Try.ntmps58
    go_wp2_with (go_at_call 57; refine (line_no _ _ _ _ _ H.out).mono ?_; rintro e w1 ⟨rfl, hb1⟩; obtain ⟨hc, hf⟩ := bcell hb1)
    go_ret2
    exact ⟨rfl, below_after (by go_grown) hb1 (by simp; omega)⟩

set_option maxHeartbeats 800000 in
theorem rline_any (a b num den : Int) (w : World) (n1 : -9223372036854775808 ≤ num) (d2 : den ≤ 9223372036854775807) :
    Calls Try.prog 55 #[.int .i64 a, .int .i64 b, .int .i64 num, .int .i64 den] w fun e w' => e = .returned (if 1 ≤ den ∧ den ≤ 16777216 ∧ 0 ≤ num ∧ num ≤ den then .tuple #[.int .i64 (lineV a b num den), .int .i64 0] else .tuple #[.int .i64 0, .int .i64 1]) ∧ w = w' := by
  have l1 := clip_lo a; have l2 := clip_hi a; have l3 := clip_lo b; have l4 := clip_hi b
  by_cases hl : 1 ≤ den ∧ den ≤ 16777216 ∧ 0 ≤ num ∧ num ≤ den
  · rw [if_pos hl]
    obtain ⟨h1, h2, h3, h4⟩ := hl
    have m := mul_bd (x := clip b - clip a) (y := num) (X := 4294967296) (Y := 16777216) (by omega) (by omega) h3 (by omega) (by omega)
    have d := line_in (a := clip a) (b := clip b) h1 h3 h4
    go_enter Try.func55, Try.ntmps55
    go_wp2_with (first | (go_at_call 19; refine (rclip_any _ _).mono ?_; rintro e w' ⟨rfl, rfl⟩) | (go_at_call 60; refine (rfloor_any _ _ _ (by omega) (by omega) (by omega) (by omega)).mono ?_; rintro e w' ⟨rfl, rfl⟩))
    go_ret2
    exact ⟨rfl, rfl⟩
  · rw [if_neg hl]
    have H := Lib.hid hl; clear hl
    go_enter Try.func55, Try.ntmps55
    go_wp2_with (first | (go_at_call 19; refine (rclip_any _ _).mono ?_; rintro e w' ⟨rfl, rfl⟩))
    all_goals first | (go_ret2; exact ⟨rfl, rfl⟩) | (exfalso; have := H.out; omega)

set_option maxHeartbeats 800000 in
theorem rbend_any (a b num den wa wb : Int) (w : World) (n1 : -9223372036854775808 ≤ num) (d2 : den ≤ 9223372036854775807) :
    Calls Try.prog 56 #[.int .i64 a, .int .i64 b, .int .i64 num, .int .i64 den, .int .i64 wa, .int .i64 wb] w fun e w' => e = .returned (if 1 ≤ den ∧ den ≤ 16777216 ∧ 0 ≤ num ∧ num ≤ den ∧ 1 ≤ wa ∧ wa ≤ 16 ∧ 1 ≤ wb ∧ wb ≤ 16 then .tuple #[.int .i64 (bendV a b num den wa wb), .int .i64 0] else .tuple #[.int .i64 0, .int .i64 1]) ∧ w = w' := by
  have l1 := clip_lo a; have l2 := clip_hi a; have l3 := clip_lo b; have l4 := clip_hi b
  by_cases hl : 1 ≤ den ∧ den ≤ 16777216 ∧ 0 ≤ num ∧ num ≤ den ∧ 1 ≤ wa ∧ wa ≤ 16 ∧ 1 ≤ wb ∧ wb ≤ 16
  · rw [if_pos hl]
    obtain ⟨h1, h2, h3, h4, a1, a2, b1, b2⟩ := hl
    have s := bend_sum h1 h2 h3 h4 a1 a2 b1 b2
    have m1 := mul_bd (x := clip a) (y := wa * (den - num)) (X := 2147483648) (Y := 268435456) (by omega) (by omega) (by omega) (by omega) (by omega)
    have m2 := mul_bd (x := clip b) (y := wb * num) (X := 2147483648) (Y := 268435456) (by omega) (by omega) (by omega) (by omega) (by omega)
    have m3 := mul_bd (x := clip a) (y := wa) (X := 2147483648) (Y := 16) (by omega) (by omega) (by omega) (by omega) (by omega)
    have m4 := mul_bd (x := clip b) (y := wb) (X := 2147483648) (Y := 16) (by omega) (by omega) (by omega) (by omega) (by omega)
    rw [← Int.mul_assoc] at m1 m2
    go_enter Try.func56, Try.ntmps56
    go_wp2_with (first | (go_at_call 19; refine (rclip_any _ _).mono ?_; rintro e w' ⟨rfl, rfl⟩) | (go_at_call 60; refine (rfloor_any _ _ _ (by omega) (by omega) (by omega) (by omega)).mono ?_; rintro e w' ⟨rfl, rfl⟩))
    go_ret2
    exact ⟨by unfold bendV; rw [Int.mul_assoc, Int.mul_assoc]; rfl, rfl⟩
  · rw [if_neg hl]
    have H := Lib.hid hl; clear hl
    go_enter Try.func56, Try.ntmps56
    go_wp2_with (first | (go_at_call 19; refine (rclip_any _ _).mono ?_; rintro e w' ⟨rfl, rfl⟩))
    all_goals first | (go_ret2; exact ⟨rfl, rfl⟩) | (exfalso; have := H.out; omega)
end Go.Proofs.Ytmblkmllamccnaa
