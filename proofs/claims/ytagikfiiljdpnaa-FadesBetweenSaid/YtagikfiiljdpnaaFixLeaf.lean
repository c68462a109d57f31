/- Leaf contracts of layer 8 (fixed). -/
import Derived.Test.YtagikfiiljdpnaaRows
import Derived.Handy
import Derived.WalkLawsBesides
import Derived.WalkSpells
namespace Go.Proofs.Ytagikfiiljdpnaa
open Go.ChangeShapes Go.WideShapes Go.ChangeAt Go.RowKit

def clip (x : Int) : Int := max (-2147483648) (min x 2147483647)
theorem clip_lo (x : Int) : -2147483648 ≤ clip x := by unfold clip; omega
theorem clip_hi (x : Int) : clip x ≤ 2147483647 := by unfold clip; omega

theorem ret_int {k : IntKind} {a b : Int} (h : a = b) : Ending.returned (.int k a) = .returned (.int k b) := by rw [h]

theorem hold_any (v lo hi : Int) (w : World) :
    Calls Try.prog 37 #[.int .i64 v, .int .i64 lo, .int .i64 hi] w fun e w' => e = .returned (.int .i64 (max lo (min v hi))) ∧ w = w' := by
  go_enter Try.func37, Try.ntmps37
  go_wp2
  all_goals (go_ret; exact ⟨ret_int (by omega), rfl⟩)

theorem clip_any (x : Int) (w : World) :
    Calls Try.prog 21 #[.int .i64 x] w fun e w' => e = .returned (.int .i64 (clip x)) ∧ w = w' := by
  go_enter Try.func21, Try.ntmps21
  go_wp2_with (go_at_call 37; refine (hold_any _ _ _ _).mono ?_; rintro e w' ⟨rfl, rfl⟩)
  go_ret
  exact ⟨rfl, rfl⟩

theorem rclip_any (x : Int) (w : World) :
    Calls Try.prog 41 #[.int .i64 x] w fun e w' => e = .returned (.int .i64 (clip x)) ∧ w = w' := by
  go_enter Try.func41, Try.ntmps41
  go_wp2
  all_goals (go_ret; exact ⟨ret_int (by unfold clip; omega), rfl⟩)

def within (v lo hi : Int) : Bool := decide (lo ≤ v ∧ v ≤ hi)
theorem within_t {v lo hi : Int} (h : lo ≤ v ∧ v ≤ hi) : within v lo hi = true := by unfold within; simpa using h
theorem within_f {v lo hi : Int} (h : ¬ (lo ≤ v ∧ v ≤ hi)) : within v lo hi = false := by unfold within; simpa using h
theorem ret_bool {a b : Bool} (h : a = b) : Ending.returned (.bool a) = .returned (.bool b) := by rw [h]

theorem within_any (v lo hi : Int) (w : World) :
    Calls Try.prog 39 #[.int .i64 v, .int .i64 lo, .int .i64 hi] w fun e w' => e = .returned (.bool (within v lo hi)) ∧ w = w' := by
  go_enter Try.func39, Try.ntmps39
  go_wp2
  all_goals go_ret
  all_goals exact ⟨ret_bool (by unfold within; simp; omega), rfl⟩

theorem tdiv_neg {a b : Int} (hb : 0 < b) (h : a.tmod b < 0) : a.tdiv b - 1 = a / b := by
  have e := Int.mul_tdiv_add_tmod a b
  have l : -b < a.tmod b := Int.lt_tmod_of_pos a hb
  have := Int.ediv_emod_unique (a := a) (b := b) (r := a.tmod b + b) (q := a.tdiv b - 1) hb
  exact ((this.2 ⟨by rw [Int.mul_sub]; omega, by omega, by omega⟩).1).symm
theorem tdiv_pos {a b : Int} (hb : 0 < b) (h : 0 ≤ a.tmod b) : a.tdiv b = a / b := by
  have e := Int.mul_tdiv_add_tmod a b
  have l : a.tmod b < b := Int.tmod_lt_of_pos a hb
  have := Int.ediv_emod_unique (a := a) (b := b) (r := a.tmod b) (q := a.tdiv b) hb
  exact ((this.2 ⟨by omega, by omega, by omega⟩).1).symm
theorem ediv_in {a b lo hi : Int} (hb : 0 < b) (h1 : lo ≤ a) (h2 : a ≤ hi) (l0 : lo ≤ 0) (h0 : 0 ≤ hi) : lo ≤ a / b ∧ a / b ≤ hi := by
  constructor
  · rw [Int.le_ediv_iff_mul_le hb]
    have : lo * b ≤ lo * 1 := Int.mul_le_mul_of_nonpos_left l0 (by omega)
    omega
  · by_cases ha : 0 ≤ a
    · have := Int.ediv_le_self b ha
      omega
    · have : a / b < 0 := Int.ediv_neg_of_neg_of_pos (by omega) hb
      omega

theorem div_any (a b : Int) (w : World) (hb : 0 < b) (hb2 : b ≤ 9223372036854775807) (ha1 : -9223372036854775808 ≤ a) (ha2 : a ≤ 9223372036854775807) :
    Calls Try.prog 43 #[.int .i64 a, .int .i64 b] w fun e w' => e = .returned (.int .i64 (a / b)) ∧ w = w' := by
  have hq := ediv_in hb ha1 ha2 (by omega) (by omega)
  go_enter Try.func43, Try.ntmps43
  go_wp2
  · have h : a.tmod b < 0 := by assumption
    have e := tdiv_neg hb h
    go_ret
    exact ⟨ret_int (by rw [IntWalk.wrap64_in _ (by omega)]; exact e), rfl⟩
  · have h : 0 ≤ a.tmod b := by assumption
    have e := tdiv_pos hb h
    go_ret
    exact ⟨ret_int e, rfl⟩

theorem rfloor_any (a b : Int) (w : World) (hb : 0 < b) (hb2 : b ≤ 9223372036854775807) (ha1 : -9223372036854775808 ≤ a) (ha2 : a ≤ 9223372036854775807) :
    Calls Try.prog 42 #[.int .i64 a, .int .i64 b] w fun e w' => e = .returned (.int .i64 (a / b)) ∧ w = w' := by
  have hq := ediv_in hb ha1 ha2 (by omega) (by omega)
  go_enter Try.func42, Try.ntmps42
  go_wp2
  · have h : a.tmod b < 0 := by assumption
    have e := tdiv_neg hb h
    go_ret
    exact ⟨ret_int (by rw [IntWalk.wrap64_in _ (by omega)]; exact e), rfl⟩
  · have h : 0 ≤ a.tmod b := by assumption
    have e := tdiv_pos hb h
    go_ret
    exact ⟨ret_int e, rfl⟩

def satAdd (a b : Int) : Int := max (-9223372036854775808) (min (a + b) 9223372036854775807)
theorem clip_sat (a b : Int) : clip (satAdd a b) = clip (a + b) := by unfold clip satAdd; omega

theorem wadd_any (a b : Int) (w : World) (ha1 : -9223372036854775808 ≤ a) (ha2 : a ≤ 9223372036854775807) (hb1 : -9223372036854775808 ≤ b) (hb2 : b ≤ 9223372036854775807) :
    Calls Try.prog 38 #[.int .i64 a, .int .i64 b] w fun e w' => e = .returned (.int .i64 (satAdd a b)) ∧ w = w' := by
  go_enter Try.func38, Try.ntmps38
  go_wp2
  all_goals (go_ret; exact ⟨ret_int (by unfold satAdd; omega), rfl⟩)

theorem add_any (a b : Int) (w : World) (ha1 : -9223372036854775808 ≤ a) (ha2 : a ≤ 9223372036854775807) (hb1 : -9223372036854775808 ≤ b) (hb2 : b ≤ 9223372036854775807) :
    Calls Try.prog 23 #[.int .i64 a, .int .i64 b] w fun e w' => e = .returned (.int .i64 (clip (a + b))) ∧ w = w' := by
  go_enter Try.func23, Try.ntmps23
  go_wp2_with (first | (go_at_call 38; refine (wadd_any _ _ _ ha1 ha2 hb1 hb2).mono ?_; rintro e w' ⟨rfl, rfl⟩) | (go_at_call 21; refine (clip_any _ _).mono ?_; rintro e w' ⟨rfl, rfl⟩))
  go_ret
  exact ⟨ret_int (clip_sat _ _), rfl⟩

theorem radd_any (a b : Int) (w : World) (ha1 : -9223372036854775808 ≤ a) (ha2 : a ≤ 9223372036854775807) (hb1 : -9223372036854775808 ≤ b) (hb2 : b ≤ 9223372036854775807) :
    Calls Try.prog 36 #[.int .i64 a, .int .i64 b] w fun e w' => e = .returned (.int .i64 (clip (a + b))) ∧ w = w' := by
  go_enter Try.func36, Try.ntmps36
  go_wp2_with (go_at_call 41; refine (rclip_any _ _).mono ?_; rintro e w' ⟨rfl, rfl⟩)
  all_goals (go_ret; exact ⟨ret_int (by simp only [clip, wrap64] at *; omega), rfl⟩)

theorem mul_in {x y : Int} (h1 : -2147483648 ≤ x) (h2 : x ≤ 2147483648) (h3 : -2147483648 ≤ y) (h4 : y ≤ 2147483648) : -4611686018427387904 ≤ x * y ∧ x * y ≤ 4611686018427387904 := by
  have a1 : 0 ≤ (2147483648 - x) * (2147483648 + y) := Int.mul_nonneg (by omega) (by omega)
  have a2 : 0 ≤ (2147483648 + x) * (2147483648 - y) := Int.mul_nonneg (by omega) (by omega)
  have a3 : 0 ≤ (2147483648 - x) * (2147483648 - y) := Int.mul_nonneg (by omega) (by omega)
  have a4 : 0 ≤ (2147483648 + x) * (2147483648 + y) := Int.mul_nonneg (by omega) (by omega)
  simp only [Int.sub_mul, Int.add_mul, Int.mul_sub, Int.mul_add] at a1 a2 a3 a4
  omega
def gmul (a g : Int) : Int := clip (clip a * clip g / 65536)
theorem clip_mul (a g : Int) : -4611686018427387904 ≤ clip a * clip g ∧ clip a * clip g ≤ 4611686018427387904 := by
  have h1 := clip_lo a; have h2 := clip_hi a; have h3 := clip_lo g; have h4 := clip_hi g
  exact mul_in h1 (by omega) h3 (by omega)

theorem mul_any (a g : Int) (w : World) :
    Calls Try.prog 33 #[.int .i64 a, .int .i64 g] w fun e w' => e = .returned (.int .i64 (gmul a g)) ∧ w = w' := by
  have hm := clip_mul a g
  have l1 := clip_lo a; have l2 := clip_hi a; have l3 := clip_lo g; have l4 := clip_hi g
  go_enter Try.func33, Try.ntmps33
  go_wp2_with (first | (go_at_call 21; refine (clip_any _ _).mono ?_; rintro e w' ⟨rfl, rfl⟩) | (go_at_call 43; refine (div_any _ _ _ (by omega) (by omega) (by omega) (by omega)).mono ?_; rintro e w' ⟨rfl, rfl⟩))
  go_ret
  exact ⟨rfl, rfl⟩

theorem rmul_any (a g : Int) (w : World) :
    Calls Try.prog 30 #[.int .i64 a, .int .i64 g] w fun e w' => e = .returned (.int .i64 (gmul a g)) ∧ w = w' := by
  have hm := clip_mul a g
  have l1 := clip_lo a; have l2 := clip_hi a; have l3 := clip_lo g; have l4 := clip_hi g
  go_enter Try.func30, Try.ntmps30
  go_wp2_with (first | (go_at_call 41; refine (rclip_any _ _).mono ?_; rintro e w' ⟨rfl, rfl⟩) | (go_at_call 42; refine (rfloor_any _ _ _ (by omega) (by omega) (by omega) (by omega)).mono ?_; rintro e w' ⟨rfl, rfl⟩))
  go_ret
  exact ⟨rfl, rfl⟩
end Go.Proofs.Ytagikfiiljdpnaa
