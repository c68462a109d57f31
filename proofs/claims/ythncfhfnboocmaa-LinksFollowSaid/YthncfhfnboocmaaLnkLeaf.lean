/- Leaf contracts of layer 13: Clip, Down, Same. -/
import Derived.Test.YthncfhfnboocmaaLnkSrc
import Derived.Test.YthncfhfnboocmaaOwn
import Derived.Test.YthncfhfnboocmaaDiv
namespace Go.Proofs.Ythncfhfnboocmaa
open Go.ChangeShapes Go.WideShapes Go.ChangeAt Go.RowKit

def clip (x : Int) : Int := max (-2147483648) (min x 2147483647)
theorem clip_lo (x : Int) : -2147483648 ≤ clip x := by unfold clip; omega
theorem clip_hi (x : Int) : clip x ≤ 2147483647 := by unfold clip; omega
theorem hold_any (v lo hi : Int) (w : World) :
    Calls Try.prog 32 #[.int .i64 v, .int .i64 lo, .int .i64 hi] w fun e w' => e = .returned (.int .i64 (max lo (min v hi))) ∧ w = w' := by
  go_enter Try.func32, Try.ntmps32
  go_wp2
  all_goals (go_ret; exact ⟨ret_int (by omega), rfl⟩)
theorem clip_any (x : Int) (w : World) :
    Calls Try.prog 18 #[.int .i64 x] w fun e w' => e = .returned (.int .i64 (clip x)) ∧ w = w' := by
  go_enter Try.func18, Try.ntmps18
  go_wp2_with (go_at_call 32; refine (hold_any _ _ _ _).mono ?_; rintro e w' ⟨rfl, rfl⟩)
  go_ret
  exact ⟨rfl, rfl⟩
theorem rclip_any (x : Int) (w : World) :
    Calls Try.prog 31 #[.int .i64 x] w fun e w' => e = .returned (.int .i64 (clip x)) ∧ w = w' := by
  go_enter Try.func31, Try.ntmps31
  go_wp2
  all_goals (go_ret; exact ⟨ret_int (by unfold clip; omega), rfl⟩)

set_option maxHeartbeats 1000000 in
theorem down_any (a b : Int) (w : World) (hb : 0 < b) (hb2 : b ≤ 2147483647) (ha1 : -4611686018427387904 ≤ a) (ha2 : a ≤ 4611686018427387904) :
    Calls Try.prog 19 #[.int .i64 a, .int .i64 b] w fun e w' => e = .returned (.int .i64 (a / b)) ∧ w = w' := by
  have hq := ediv_in hb ha1 ha2 (by omega) (by omega)
  have em : a.tdiv b * b = a - a.tmod b := by have := Int.mul_tdiv_add_tmod a b; rw [Int.mul_comm] at this; omega
  have hlo : -b < a.tmod b := by have := Int.neg_lt_of_neg_lt (Int.lt_of_lt_of_le (Int.neg_lt_neg (Int.tmod_lt_of_pos (-a) hb)) (Int.le_refl _)); rw [Int.neg_tmod] at this; omega
  have hhi : a.tmod b < b := Int.tmod_lt_of_pos a hb
  have hb0 : (b == 0) = false := by simp; omega
  rcases Int.lt_or_le (a.tmod b) 0 with h | h
  · have e := tdiv_low hb h
    have wq : IntKind.i64.wrap (a.tdiv b) = a.tdiv b := wrap_id (by omega)
    have wm : IntKind.i64.wrap (a.tdiv b * b) = a.tdiv b * b := wrap_id (by omega)
    have wd : IntKind.i64.wrap (a.tdiv b - 1) = a.tdiv b - 1 := wrap_id (by omega)
    have hgt : a < a.tdiv b * b := by omega
    have HE := Lib.hid e
    clear e em hlo hhi hq h
    go_enter Try.func19, Try.ntmps19
    go_wp2
    go_ret
    exact ⟨ret_int HE.out, rfl⟩
  · have e := tdiv_high hb h
    have wq : IntKind.i64.wrap (a.tdiv b) = a.tdiv b := wrap_id (by omega)
    have wm : IntKind.i64.wrap (a.tdiv b * b) = a.tdiv b * b := wrap_id (by omega)
    have hgt : ¬ a < a.tdiv b * b := by omega
    have HE := Lib.hid e
    clear e em hlo hhi hq h
    go_enter Try.func19, Try.ntmps19
    go_wp2
    go_ret
    exact ⟨ret_int HE.out, rfl⟩

set_option maxRecDepth 100000 in
theorem same_any (a a' : Option Addr) (b b' off off' n n' cap cap' : Nat) (l l' : List Int) (w : World) (h : Row w a b off n l) (h' : Row w a' b' off' n' l') (hn : n ≤ 16777216) (he : l = l') :
    Calls Try.prog 15 #[.slice a n cap, .slice a' n' cap'] w fun e w' => e = .returned (.bool true) ∧ Below w.heap.size w w' := by
  subst he
  obtain rfl : n = n' := by rw [← h.len, h'.len]
  have HR := Lib.hid h; have HR' := Lib.hid h'; clear h h'
  go_enter Try.func15, Try.ntmps15
  go_wp2
  go_loopw [5] (fun i wr => ∃ k : Nat, k ≤ n ∧ i = .int .i64 k ∧ Below w.heap.size w wr) (fun i _ => n - (intOf i).toNat)
  case atStart => exact ⟨0, Nat.zero_le _, rfl, Below.refl _ _⟩
  case round =>
    obtain ⟨k, hk, rfl, hB⟩ := hrel
    by_cases hlt : k < n
    · obtain rfl := HR.out.adr (by omega)
      obtain rfl := HR'.out.adr (by omega)
      have hc1 := (HR.out.below hB (Nat.le_refl _)).cel k hlt
      have hc2 := (HR'.out.below hB (Nat.le_refl _)).cel k hlt
      generalize hx : l.getD k 0 = x at *
      have HX := Lib.hid hx; clear hx
      go_wp2
      go_quiet (fail)
      go_wp2
      go_roundw
      case rel => exact ⟨k + 1, by omega, by go_num, below_drewN hB _⟩
      case measure => simp [intOf]; omega
    · obtain rfl : k = n := by omega
      go_wp2
      go_ret
      exact ⟨rfl, hB⟩
end Go.Proofs.Ythncfhfnboocmaa
