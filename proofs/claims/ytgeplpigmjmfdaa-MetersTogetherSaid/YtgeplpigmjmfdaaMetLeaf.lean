/- Leaf contracts of layer 52 (meters). -/
import Derived.Test.YtgeplpigmjmfdaaBase
import Derived.Test.YtgeplpigmjmfdaaWithin
namespace Go.Proofs.Ytgeplpigmjmfdaa
open Go.ChangeShapes Go.WideShapes Go.ChangeAt Go.RowKit

def clip (x : Int) : Int := max (-2147483648) (min x 2147483647)
theorem clip_lo (x : Int) : -2147483648 ≤ clip x := by unfold clip; omega
theorem clip_hi (x : Int) : clip x ≤ 2147483647 := by unfold clip; omega

theorem hold_any (v lo hi : Int) (w : World) :
    Calls Try.prog 32 #[.int .i64 v, .int .i64 lo, .int .i64 hi] w fun e w' => e = .returned (.int .i64 (max lo (min v hi))) ∧ w = w' := by
  go_enter Try.func32, Try.ntmps32
  go_wp2
  all_goals (go_ret; exact ⟨ret_int (by omega), rfl⟩)

theorem clip_any (x : Int) (w : World) :
    Calls Try.prog 28 #[.int .i64 x] w fun e w' => e = .returned (.int .i64 (clip x)) ∧ w = w' := by
  go_enter Try.func28, Try.ntmps28
  go_wp2_with (go_at_call 32; refine (hold_any _ _ _ _).mono ?_; rintro e w' ⟨rfl, rfl⟩)
  go_ret
  exact ⟨rfl, rfl⟩

theorem rclip_any (x : Int) (w : World) :
    Calls Try.prog 18 #[.int .i64 x] w fun e w' => e = .returned (.int .i64 (clip x)) ∧ w = w' := by
  go_enter Try.func18, Try.ntmps18
  go_wp2
  all_goals (go_ret; exact ⟨ret_int (by unfold clip; omega), rfl⟩)

theorem div_any (a b : Int) (w : World) (hb : 0 < b) (hb2 : b ≤ 9223372036854775807) (ha1 : -9223372036854775808 ≤ a) (ha2 : a ≤ 9223372036854775807) :
    Calls Try.prog 27 #[.int .i64 a, .int .i64 b] w fun e w' => e = .returned (.int .i64 (a / b)) ∧ w = w' := by
  have hq := ediv_in hb ha1 ha2 (by omega) (by omega)
  go_enter Try.func27, Try.ntmps27
  go_wp2
  · have h : a.tmod b < 0 := by assumption
    have e := tdiv_low hb h
    go_ret
    exact ⟨ret_int (by rw [IntWalk.wrap64_in _ (by omega)]; exact e), rfl⟩
  · have h : 0 ≤ a.tmod b := by assumption
    have e := tdiv_high hb h
    go_ret
    exact ⟨ret_int e, rfl⟩

theorem rfloor_any (a b : Int) (w : World) (hb : 0 < b) (hb2 : b ≤ 9223372036854775807) (ha1 : -9223372036854775808 ≤ a) (ha2 : a ≤ 9223372036854775807) :
    Calls Try.prog 29 #[.int .i64 a, .int .i64 b] w fun e w' => e = .returned (.int .i64 (a / b)) ∧ w = w' := by
  have hq := ediv_in hb ha1 ha2 (by omega) (by omega)
  go_enter Try.func29, Try.ntmps29
  go_wp2
  · have h : a.tmod b < 0 := by assumption
    have e := tdiv_low hb h
    go_ret
    exact ⟨ret_int (by rw [IntWalk.wrap64_in _ (by omega)]; exact e), rfl⟩
  · have h : 0 ≤ a.tmod b := by assumption
    have e := tdiv_high hb h
    go_ret
    exact ⟨ret_int e, rfl⟩

/-- The greatest of a number and the first k of a list. -/
def maxTo (f : Int) (l : List Int) : Nat → Int
  | 0 => f
  | k + 1 => max (maxTo f l k) (l.getD k 0)

theorem greatest_any (f : Int) (b n cap : Nat) (l : List Int) (w : World) (hn : n ≤ 1000)
    (hc : ∀ i, i < n → w.cell? ⟨b, i, none⟩ = some (.int .i64 (l.getD i 0))) :
    Calls Try.prog 25 #[.int .i64 f, .slice (some ⟨b, 0, none⟩) n cap] w fun e w' => e = .returned (.int .i64 (maxTo f l n)) ∧ w = w' := by
  have HC := Lib.hid hc; clear hc
  go_enter Try.func25, Try.ntmps25
  go_wp2
  go_loop [0, 9] (fun s i => ∃ k : Nat, k ≤ n ∧ i = .int .i64 k ∧ s = .int .i64 (maxTo f l k)) (fun _ i => n - (intOf i).toNat)
  case atStart => exact ⟨0, Nat.zero_le _, rfl, rfl⟩
  case round =>
    obtain ⟨k, hk, rfl, rfl⟩ := hrel
    by_cases hlt : k < n
    · have hcell := HC.out k hlt
      generalize hx : l.getD k 0 = x at *
      have HX := Lib.hid hx; clear hx
      go_wp2
      all_goals
        go_round
        case rel => exact ⟨k + 1, by omega, by go_num, by simp only [maxTo, HX.out]; first | rfl | (congr 1; omega)⟩
        case measure => simp [intOf]; omega
    · obtain rfl : k = n := by omega
      go_wp2
      go_ret
      exact ⟨rfl, rfl⟩

def sizeV (x : Int) : Int := max (clip x) (-(clip x))
theorem sizeV_bd (x : Int) : 0 ≤ sizeV x ∧ sizeV x ≤ 2147483648 := by
  have := clip_lo x; have := clip_hi x
  unfold sizeV; omega

theorem size_any (x : Int) (w : World) :
    Calls Try.prog 26 #[.int .i64 x] w fun e w' => e = .returned (.int .i64 (sizeV x)) ∧ Below w.heap.size w w' := by
  have l1 := clip_lo x; have l2 := clip_hi x
  go_enter Try.func26, Try.ntmps26
  go_wp2_with fail
  refine (clip_any _ _).mono ?_; rintro e w' ⟨rfl, rfl⟩
  go_wp2_with fail
  refine (greatest_any _ _ _ _ [-(clip x)] _ (by omega) ?_).mono ?_
  · intro i hi
    match i, hi with
    | 0, _ => go_cell
  rintro e w' ⟨rfl, rfl⟩
  go_wp2_with fail
  go_ret
  exact ⟨rfl, (Below.refl _ _).alloc (Nat.le_refl _) _⟩

def sq (x : Int) : Int := (clip x / 256) * (clip x / 256)
theorem sq_bd (x : Int) : 0 ≤ sq x ∧ sq x ≤ 70368744177664 := by
  have h1 := clip_lo x; have h2 := clip_hi x
  have a1 : -8388608 ≤ clip x / 256 := by omega
  have a2 : clip x / 256 ≤ 8388607 := by omega
  unfold sq
  generalize clip x / 256 = q at *
  constructor
  · by_cases h : 0 ≤ q
    · exact Int.mul_nonneg h h
    · exact Int.mul_nonneg_of_nonpos_of_nonpos (by omega) (by omega)
  · have b1 : 0 ≤ (8388608 - q) * (8388608 + q) := Int.mul_nonneg (by omega) (by omega)
    simp only [Int.sub_mul, Int.mul_add] at b1
    omega

theorem square_any (x : Int) (w : World) :
    Calls Try.prog 19 #[.int .i64 x] w fun e w' => e = .returned (.int .i64 (sq x)) ∧ w = w' := by
  have l1 := clip_lo x; have l2 := clip_hi x
  have hb := sq_bd x
  unfold sq at hb
  go_enter Try.func19, Try.ntmps19
  go_wp2_with (first | (go_at_call 28; refine (clip_any _ _).mono ?_; rintro e w' ⟨rfl, rfl⟩) | (go_at_call 27; refine (div_any _ _ _ (by omega) (by omega) (by omega) (by omega)).mono ?_; rintro e w' ⟨rfl, rfl⟩))
  go_ret
  exact ⟨rfl, rfl⟩
end Go.Proofs.Ytgeplpigmjmfdaa
