/- The walks of the statements of layer 8 over numbers. -/
import Derived.Test.YtcljkjachaecoaaFixMix
namespace Go.Proofs.Ytcljkjachaecoaa
open Go.ChangeShapes Go.WideShapes Go.ChangeAt Go.RowKit

set_option maxHeartbeats 400000 in
theorem fixedSpec_walk (a b : Int) (w : World) (ha1 : -9223372036854775808 ≤ a) (ha2 : a ≤ 9223372036854775807) (hb1 : -9223372036854775808 ≤ b) (hb2 : b ≤ 9223372036854775807) :
    Calls Try.prog 3 #[.int .i64 a, .int .i64 b] w fun e w' => e = .returned (.bool true) ∧ Below w.heap.size w w' := by
  go_enter Try.func3, Try.ntmps3
  go_wp2_with (first | (go_at_call 10; refine (sane_any _).mono ?_; rintro e w1 ⟨rfl, hbb⟩) | (go_at_call 11; refine (clip_any _ _).mono ?_; rintro e w' ⟨rfl, rfl⟩) | (go_at_call 12; refine (rclip_any _ _).mono ?_; rintro e w' ⟨rfl, rfl⟩) | (go_at_call 13; refine (add_any _ _ _ ha1 ha2 hb1 hb2).mono ?_; rintro e w' ⟨rfl, rfl⟩) | (go_at_call 14; refine (radd_any _ _ _ ha1 ha2 hb1 hb2).mono ?_; rintro e w' ⟨rfl, rfl⟩) | (go_at_call 15; refine (mul_any _ _ _).mono ?_; rintro e w' ⟨rfl, rfl⟩) | (go_at_call 16; refine (rmul_any _ _ _).mono ?_; rintro e w' ⟨rfl, rfl⟩))
  go_ret
  exact ⟨by simp, hbb⟩

theorem mul_mono {g x y : Int} (hg : 0 ≤ g) (h : x ≤ y) : gmul x g ≤ gmul y g := by
  unfold gmul
  have h1 : clip x ≤ clip y := by unfold clip; omega
  have h2 : 0 ≤ clip g := by unfold clip; omega
  have h3 : clip x * clip g ≤ clip y * clip g := Int.mul_le_mul_of_nonneg_right h1 h2
  have h4 : clip x * clip g / 65536 ≤ clip y * clip g / 65536 := Int.ediv_le_ediv (by omega) h3
  generalize clip x * clip g / 65536 = p at *
  generalize clip y * clip g / 65536 = q at *
  unfold clip; omega
theorem clip_mono {x y : Int} (h : x ≤ y) : clip x ≤ clip y := by unfold clip; omega
def negG (c : Int) : Int := if c < 0 then -(c + 1) else c

theorem add_comm_b (x y : Int) : (clip (x + y) == clip (y + x)) = true := by rw [Int.add_comm]; simp

set_option maxHeartbeats 1000000 in
theorem fixedOrder_walk (a b c : Int) (w : World) (ha1 : -9223372036854775808 ≤ a) (ha2 : a ≤ 9223372036854775807) (hb1 : -9223372036854775808 ≤ b) (hb2 : b ≤ 9223372036854775807) (hc1 : -9223372036854775808 ≤ c) (hc2 : c ≤ 9223372036854775807) :
    Calls Try.prog 9 #[.int .i64 a, .int .i64 b, .int .i64 c] w fun e w' => e = .returned (.bool true) ∧ Below w.heap.size w w' := by
  by_cases h : b < a
  · have f1 : clip b ≤ clip a := clip_mono (by omega)
    have f2 : clip (b + c) ≤ clip (a + c) := clip_mono (by omega)
    have f3 := add_comm_b c a
    by_cases hc : c < 0
    · have f4 : gmul b (-(c + 1)) ≤ gmul a (-(c + 1)) := mul_mono (by omega) (by omega)
      go_enter Try.func9, Try.ntmps9
      go_wp2_with (first | (go_at_call 10; refine (sane_any _).mono ?_; rintro e w1 ⟨rfl, hbb⟩) | (go_at_call 11; refine (clip_any _ _).mono ?_; rintro e w' ⟨rfl, rfl⟩) | (go_at_call 13; refine (add_any _ _ _ (by omega) (by omega) (by omega) (by omega)).mono ?_; rintro e w' ⟨rfl, rfl⟩) | (go_at_call 15; refine (mul_any _ _ _).mono ?_; rintro e w' ⟨rfl, rfl⟩))
      go_ret
      exact ⟨by simp, hbb⟩
    · have f4 : gmul b c ≤ gmul a c := mul_mono (by omega) (by omega)
      go_enter Try.func9, Try.ntmps9
      go_wp2_with (first | (go_at_call 10; refine (sane_any _).mono ?_; rintro e w1 ⟨rfl, hbb⟩) | (go_at_call 11; refine (clip_any _ _).mono ?_; rintro e w' ⟨rfl, rfl⟩) | (go_at_call 13; refine (add_any _ _ _ (by omega) (by omega) (by omega) (by omega)).mono ?_; rintro e w' ⟨rfl, rfl⟩) | (go_at_call 15; refine (mul_any _ _ _).mono ?_; rintro e w' ⟨rfl, rfl⟩))
      go_ret
      exact ⟨by simp, hbb⟩
  · have f1 : clip a ≤ clip b := clip_mono (by omega)
    have f2 : clip (a + c) ≤ clip (b + c) := clip_mono (by omega)
    have f3 := add_comm_b c b
    by_cases he : a = b
    · subst he
      by_cases hc : c < 0
      · go_enter Try.func9, Try.ntmps9
        go_wp2_with (first | (go_at_call 10; refine (sane_any _).mono ?_; rintro e w1 ⟨rfl, hbb⟩) | (go_at_call 11; refine (clip_any _ _).mono ?_; rintro e w' ⟨rfl, rfl⟩) | (go_at_call 13; refine (add_any _ _ _ (by omega) (by omega) (by omega) (by omega)).mono ?_; rintro e w' ⟨rfl, rfl⟩) | (go_at_call 15; refine (mul_any _ _ _).mono ?_; rintro e w' ⟨rfl, rfl⟩))
        go_ret
        exact ⟨by simp, hbb⟩
      · go_enter Try.func9, Try.ntmps9
        go_wp2_with (first | (go_at_call 10; refine (sane_any _).mono ?_; rintro e w1 ⟨rfl, hbb⟩) | (go_at_call 11; refine (clip_any _ _).mono ?_; rintro e w' ⟨rfl, rfl⟩) | (go_at_call 13; refine (add_any _ _ _ (by omega) (by omega) (by omega) (by omega)).mono ?_; rintro e w' ⟨rfl, rfl⟩) | (go_at_call 15; refine (mul_any _ _ _).mono ?_; rintro e w' ⟨rfl, rfl⟩))
        go_ret
        exact ⟨by simp, hbb⟩
    · have hlt : a < b := by omega
      by_cases hc : c < 0
      · have f4 : gmul a (-(c + 1)) ≤ gmul b (-(c + 1)) := mul_mono (by omega) (by omega)
        go_enter Try.func9, Try.ntmps9
        go_wp2_with (first | (go_at_call 10; refine (sane_any _).mono ?_; rintro e w1 ⟨rfl, hbb⟩) | (go_at_call 11; refine (clip_any _ _).mono ?_; rintro e w' ⟨rfl, rfl⟩) | (go_at_call 13; refine (add_any _ _ _ (by omega) (by omega) (by omega) (by omega)).mono ?_; rintro e w' ⟨rfl, rfl⟩) | (go_at_call 15; refine (mul_any _ _ _).mono ?_; rintro e w' ⟨rfl, rfl⟩))
        go_ret
        exact ⟨by simp, hbb⟩
      · have f4 : gmul a c ≤ gmul b c := mul_mono (by omega) (by omega)
        go_enter Try.func9, Try.ntmps9
        go_wp2_with (first | (go_at_call 10; refine (sane_any _).mono ?_; rintro e w1 ⟨rfl, hbb⟩) | (go_at_call 11; refine (clip_any _ _).mono ?_; rintro e w' ⟨rfl, rfl⟩) | (go_at_call 13; refine (add_any _ _ _ (by omega) (by omega) (by omega) (by omega)).mono ?_; rintro e w' ⟨rfl, rfl⟩) | (go_at_call 15; refine (mul_any _ _ _).mono ?_; rintro e w' ⟨rfl, rfl⟩))
        go_ret
        exact ⟨by simp, hbb⟩

theorem rline_ok (a b num den : Int) (w : World) (n1 : -9223372036854775808 ≤ num) (d2 : den ≤ 9223372036854775807) (h : 1 ≤ den ∧ den ≤ 16777216 ∧ 0 ≤ num ∧ num ≤ den) :
    Calls Try.prog 20 #[.int .i64 a, .int .i64 b, .int .i64 num, .int .i64 den] w fun e w' => e = .returned (.tuple #[.int .i64 (lineV a b num den), .int .i64 0]) ∧ w = w' := by
  have := rline_any a b num den w n1 d2
  rwa [if_pos h] at this
theorem rline_no (a b num den : Int) (w : World) (n1 : -9223372036854775808 ≤ num) (d2 : den ≤ 9223372036854775807) (h : ¬ (1 ≤ den ∧ den ≤ 16777216 ∧ 0 ≤ num ∧ num ≤ den)) :
    Calls Try.prog 20 #[.int .i64 a, .int .i64 b, .int .i64 num, .int .i64 den] w fun e w' => e = .returned (.tuple #[.int .i64 0, .int .i64 1]) ∧ w = w' := by
  have := rline_any a b num den w n1 d2
  rwa [if_neg h] at this
theorem rbend_ok (a b num den wa wb : Int) (w : World) (n1 : -9223372036854775808 ≤ num) (d2 : den ≤ 9223372036854775807) (h : 1 ≤ den ∧ den ≤ 16777216 ∧ 0 ≤ num ∧ num ≤ den ∧ 1 ≤ wa ∧ wa ≤ 16 ∧ 1 ≤ wb ∧ wb ≤ 16) :
    Calls Try.prog 22 #[.int .i64 a, .int .i64 b, .int .i64 num, .int .i64 den, .int .i64 wa, .int .i64 wb] w fun e w' => e = .returned (.tuple #[.int .i64 (bendV a b num den wa wb), .int .i64 0]) ∧ w = w' := by
  have := rbend_any a b num den wa wb w n1 d2
  rwa [if_pos h] at this
theorem rbend_no (a b num den wa wb : Int) (w : World) (n1 : -9223372036854775808 ≤ num) (d2 : den ≤ 9223372036854775807) (h : ¬ (1 ≤ den ∧ den ≤ 16777216 ∧ 0 ≤ num ∧ num ≤ den ∧ 1 ≤ wa ∧ wa ≤ 16 ∧ 1 ≤ wb ∧ wb ≤ 16)) :
    Calls Try.prog 22 #[.int .i64 a, .int .i64 b, .int .i64 num, .int .i64 den, .int .i64 wa, .int .i64 wb] w fun e w' => e = .returned (.tuple #[.int .i64 0, .int .i64 1]) ∧ w = w' := by
  have := rbend_any a b num den wa wb w n1 d2
  rwa [if_neg h] at this

def validL (num den : Int) : Prop := 1 ≤ den ∧ den ≤ 16777216 ∧ 0 ≤ num ∧ num ≤ den
def validW (wa wb : Int) : Prop := 1 ≤ wa ∧ wa ≤ 16 ∧ 1 ≤ wb ∧ wb ≤ 16
instance (num den : Int) : Decidable (validL num den) := by unfold validL; infer_instance
instance (wa wb : Int) : Decidable (validW wa wb) := by unfold validW; infer_instance
theorem line_yes {a b num den : Int} {w : World} (h : validL num den) :
    Calls Try.prog 19 #[.int .i64 a, .int .i64 b, .int .i64 num, .int .i64 den] w fun e w' => e = .returned (.tuple #[.int .i64 (lineV a b num den), .int .i64 0]) ∧ Below w.heap.size w w' := line_ok _ _ _ _ _ h.1 h.2.1 h.2.2.1 h.2.2.2
theorem bend_yes {a b num den wa wb : Int} {w : World} (h : validL num den) (k : validW wa wb) :
    Calls Try.prog 21 #[.int .i64 a, .int .i64 b, .int .i64 num, .int .i64 den, .int .i64 wa, .int .i64 wb] w fun e w' => e = .returned (.tuple #[.int .i64 (bendV a b num den wa wb), .int .i64 0]) ∧ Below w.heap.size w w' := bend_ok _ _ _ _ _ _ _ h.1 h.2.1 h.2.2.1 h.2.2.2 k.1 k.2.1 k.2.2.1 k.2.2.2

set_option maxHeartbeats 1000000 in
theorem fixedLineSpec_walk (a b num den wa wb : Int) (w : World) (n1 : -9223372036854775808 ≤ num) (d2 : den ≤ 9223372036854775807) :
    Calls Try.prog 5 #[.int .i64 a, .int .i64 b, .int .i64 num, .int .i64 den, .int .i64 wa, .int .i64 wb] w fun e w' => e = .returned (.bool true) ∧ Below w.heap.size w w' := by
  by_cases hl : validL num den
  · by_cases hw : validW wa wb
    · have hr : 1 ≤ den ∧ den ≤ 16777216 ∧ 0 ≤ num ∧ num ≤ den ∧ 1 ≤ wa ∧ wa ≤ 16 ∧ 1 ≤ wb ∧ wb ≤ 16 := ⟨hl.1, hl.2.1, hl.2.2.1, hl.2.2.2, hw.1, hw.2.1, hw.2.2.1, hw.2.2.2⟩
      have HR := Lib.hid hr; clear hr
      go_enter Try.func5, Try.ntmps5
      go_wp2_with (first | (go_at_call 10; refine (sane_any _).mono ?_; rintro e w1 ⟨rfl, hb1⟩) | (go_at_call 19; refine (line_yes hl).mono ?_; rintro e w2 ⟨rfl, hb2⟩) | (go_at_call 20; refine (rline_ok _ _ _ _ _ n1 d2 hl).mono ?_; rintro e w' ⟨rfl, rfl⟩) | (go_at_call 21; refine (bend_yes hl hw).mono ?_; rintro e w3 ⟨rfl, hb3⟩) | (go_at_call 22; refine (rbend_ok _ _ _ _ _ _ _ n1 d2 HR.out).mono ?_; rintro e w' ⟨rfl, rfl⟩))
      have s1 := hb1.size; have s2 := hb2.size
      go_ret
      exact ⟨by simp, below_after (below_after hb1 hb2 s1) hb3 (Nat.le_trans s1 s2)⟩
    · have hr : ¬ (1 ≤ den ∧ den ≤ 16777216 ∧ 0 ≤ num ∧ num ≤ den ∧ 1 ≤ wa ∧ wa ≤ 16 ∧ 1 ≤ wb ∧ wb ≤ 16) := fun g => hw g.2.2.2.2
      have HR := Lib.hid hr; clear hr
      have HW := Lib.hid hw; clear hw
      go_enter Try.func5, Try.ntmps5
      go_wp2_with (first | (go_at_call 10; refine (sane_any _).mono ?_; rintro e w1 ⟨rfl, hb1⟩) | (go_at_call 19; refine (line_yes hl).mono ?_; rintro e w2 ⟨rfl, hb2⟩) | (go_at_call 20; refine (rline_ok _ _ _ _ _ n1 d2 hl).mono ?_; rintro e w' ⟨rfl, rfl⟩) | (go_at_call 21; refine (bend_no _ _ _ _ _ _ _ (.inr HW.out)).mono ?_; rintro e w3 ⟨rfl, hb3⟩) | (go_at_call 22; refine (rbend_no _ _ _ _ _ _ _ n1 d2 HR.out).mono ?_; rintro e w' ⟨rfl, rfl⟩))
      have s1 := hb1.size; have s2 := hb2.size
      go_ret
      exact ⟨by simp, below_after (below_after hb1 hb2 s1) hb3 (Nat.le_trans s1 s2)⟩
  · have hr : ¬ (1 ≤ den ∧ den ≤ 16777216 ∧ 0 ≤ num ∧ num ≤ den ∧ 1 ≤ wa ∧ wa ≤ 16 ∧ 1 ≤ wb ∧ wb ≤ 16) := fun g => hl ⟨g.1, g.2.1, g.2.2.1, g.2.2.2.1⟩
    have HR := Lib.hid hr; clear hr
    have HL := Lib.hid hl; clear hl
    go_enter Try.func5, Try.ntmps5
    go_wp2_with (first | (go_at_call 10; refine (sane_any _).mono ?_; rintro e w1 ⟨rfl, hb1⟩) | (go_at_call 19; refine (line_no _ _ _ _ _ HL.out).mono ?_; rintro e w2 ⟨rfl, hb2⟩) | (go_at_call 20; refine (rline_no _ _ _ _ _ n1 d2 HL.out).mono ?_; rintro e w' ⟨rfl, rfl⟩) | (go_at_call 21; refine (bend_no _ _ _ _ _ _ _ (.inl HL.out)).mono ?_; rintro e w3 ⟨rfl, hb3⟩) | (go_at_call 22; refine (rbend_no _ _ _ _ _ _ _ n1 d2 HR.out).mono ?_; rintro e w' ⟨rfl, rfl⟩))
    have s1 := hb1.size; have s2 := hb2.size
    go_ret
    exact ⟨by simp, below_after (below_after hb1 hb2 s1) hb3 (Nat.le_trans s1 s2)⟩

theorem clip_clip (x : Int) : clip (clip x) = clip x := by unfold clip; omega
theorem mul_unity (a : Int) : gmul a 65536 = clip a := by
  have h1 := clip_lo a; have h2 := clip_hi a
  have e : clip 65536 = 65536 := by decide +kernel
  unfold gmul
  rw [e, Int.mul_ediv_cancel _ (by omega), clip_clip]
theorem mul_zero (a : Int) : gmul a 0 = 0 := by
  have e : clip 0 = 0 := by decide +kernel
  unfold gmul
  rw [e, Int.mul_zero]; decide +kernel
theorem mul_comm' (a g : Int) : gmul a g = gmul g a := by unfold gmul; rw [Int.mul_comm]
end Go.Proofs.Ytcljkjachaecoaa
