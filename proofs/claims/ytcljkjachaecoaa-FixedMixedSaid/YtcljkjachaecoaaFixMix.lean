/- Contracts of Mix, of the specification's Mix, and of the examples (layer 8). -/
import Derived.Test.YtcljkjachaecoaaFixLine
namespace Go.Proofs.Ytcljkjachaecoaa
open Go.ChangeShapes Go.WideShapes Go.ChangeAt Go.RowKit

def sumTo (l : List Int) : Nat → Int
  | 0 => 0
  | k + 1 => sumTo l k + clip (l.getD k 0)
theorem sumTo_bd (l : List Int) (k : Nat) : -(2147483648 * (k : Int)) ≤ sumTo l k ∧ sumTo l k ≤ 2147483648 * (k : Int) := by
  induction k with
  | zero => simp [sumTo]
  | succ k ih =>
    have h1 := clip_lo (l.getD k 0); have h2 := clip_hi (l.getD k 0)
    simp only [sumTo]
    omega

set_option maxHeartbeats 400000 in
theorem sum_any (a : Option Addr) (b off n cap : Nat) (l : List Int) (w : World) (hn : n ≤ 1000000) (ha : 0 < n → a = some ⟨b, off, none⟩)
    (hc : ∀ i, i < n → w.cell? ⟨b, off + i, none⟩ = some (.int .i64 (l.getD i 0))) :
    Calls Try.prog 27 #[.slice a n cap] w fun e w' => e = .returned (.int .i64 (sumTo l n)) ∧ w = w' := by
  have HC := Lib.hid hc; have HA := Lib.hid ha; clear hc ha
  go_enter Try.func27, Try.ntmps27
  go_wp2
  go_loop [3, 8] (fun s i => ∃ k : Nat, k ≤ n ∧ i = .int .i64 k ∧ s = .int .i64 (sumTo l k)) (fun _ i => n - (intOf i).toNat)
  case atStart => exact ⟨0, Nat.zero_le _, rfl, rfl⟩
  case round =>
    obtain ⟨k, hk, rfl, rfl⟩ := hrel
    by_cases hlt : k < n
    · obtain rfl := HA.out (by omega)
      have hcell := HC.out k hlt
      have bd := sumTo_bd l k
      have c1 := clip_lo (l.getD k 0); have c2 := clip_hi (l.getD k 0)
      generalize hx : l.getD k 0 = x at *
      have HX := Lib.hid hx; clear hx
      go_wp2_with (go_at_call 11; refine (clip_any _ _).mono ?_; rintro e w' ⟨rfl, rfl⟩)
      go_round
      case rel => exact ⟨k + 1, by omega, by go_num, by simp only [sumTo, HX.out]⟩
      case measure => simp [intOf]; omega
    · obtain rfl : k = n := by omega
      go_wp2
      go_ret
      exact ⟨rfl, rfl⟩

def mixOf (l : List Int) (n : Nat) : Int := clip (sumTo l n)

theorem mix_any (a : Option Addr) (b off n cap : Nat) (l : List Int) (w : World) (hn : n ≤ 1000000) (ha : 0 < n → a = some ⟨b, off, none⟩)
    (hc : ∀ i, i < n → w.cell? ⟨b, off + i, none⟩ = some (.int .i64 (l.getD i 0))) :
    Calls Try.prog 17 #[.slice a n cap] w fun e w' => e = .returned (.int .i64 (mixOf l n)) ∧ w = w' := by
  have HC := Lib.hid hc; have HA := Lib.hid ha; clear hc ha
  go_enter Try.func17, Try.ntmps17
  go_wp2_with (first | (go_at_call 27; refine (sum_any _ b off _ _ l _ hn HA.out HC.out).mono ?_; rintro e w' ⟨rfl, rfl⟩) | (go_at_call 11; refine (clip_any _ _).mono ?_; rintro e w' ⟨rfl, rfl⟩))
  go_ret
  exact ⟨rfl, rfl⟩

set_option maxHeartbeats 400000 in
theorem rmix_any (a : Option Addr) (b off n cap : Nat) (l : List Int) (w : World) (hn : n ≤ 1000000) (ha : 0 < n → a = some ⟨b, off, none⟩)
    (hc : ∀ i, i < n → w.cell? ⟨b, off + i, none⟩ = some (.int .i64 (l.getD i 0))) :
    Calls Try.prog 18 #[.slice a n cap] w fun e w' => e = .returned (.int .i64 (mixOf l n)) ∧ w = w' := by
  have HC := Lib.hid hc; have HA := Lib.hid ha; clear hc ha
  go_enter Try.func18, Try.ntmps18
  go_wp2
  go_loop [3, 4] (fun s i => ∃ k : Nat, k ≤ n ∧ i = .int .i64 k ∧ s = .int .i64 (sumTo l k)) (fun _ i => n - (intOf i).toNat)
  case atStart => exact ⟨0, Nat.zero_le _, rfl, rfl⟩
  case round =>
    obtain ⟨k, hk, rfl, rfl⟩ := hrel
    by_cases hlt : k < n
    · obtain rfl := HA.out (by omega)
      have hcell := HC.out k hlt
      have bd := sumTo_bd l k
      have c1 := clip_lo (l.getD k 0); have c2 := clip_hi (l.getD k 0)
      generalize hx : l.getD k 0 = x at *
      have HX := Lib.hid hx; clear hx
      go_wp2_with (go_at_call 12; refine (rclip_any _ _).mono ?_; rintro e w' ⟨rfl, rfl⟩)
      go_round
      case rel => exact ⟨k + 1, by omega, by go_num, by simp only [sumTo, HX.out]⟩
      case measure => simp [intOf]; omega
    · obtain rfl : k = n := by omega
      go_wp2_with (go_at_call 12; refine (rclip_any _ _).mono ?_; rintro e w' ⟨rfl, rfl⟩)
      go_ret
      exact ⟨rfl, rfl⟩

theorem v33 : lineV 0 100 1 3 = 33 := by decide
theorem v66 : lineV 100 0 1 3 = 66 := by decide
theorem vc : clip 2147483648 = 2147483647 := by decide +kernel
theorem va : clip (-2147483648 + -1) = -2147483648 := by decide +kernel
theorem vm1 : gmul 7 65536 = 7 := by decide +kernel
theorem vm2 : gmul (-1) 1 = -1 := by decide +kernel
theorem vm3 : gmul (-3) 32768 = -2 := by decide +kernel
theorem vx1 : mixOf [] 0 = 0 := by decide +kernel
theorem vx2 : mixOf [2147483647, 1, -1] 3 = 2147483647 := by decide +kernel
theorem v75 : bendV 0 100 1 2 1 3 = 75 := by decide

set_option maxHeartbeats 1000000 in
theorem sane_any (w : World) :
    Calls Try.prog 10 #[] w fun e w' => e = .returned (.bool true) ∧ Below w.heap.size w w' := by
  go_enter Try.func10, Try.ntmps10
  go_wp2_with fail
  refine (line_ok _ _ _ _ _ (by omega) (by omega) (by omega) (by omega)).mono ?_; rintro e w1 ⟨rfl, hb1⟩
  rw [v33]
  go_wp2_with fail
  refine (line_ok _ _ _ _ _ (by omega) (by omega) (by omega) (by omega)).mono ?_; rintro e w2 ⟨rfl, hb2⟩
  rw [v66]
  go_wp2_with fail
  refine (bend_ok _ _ _ _ _ _ _ (by omega) (by omega) (by omega) (by omega) (by omega) (by omega) (by omega) (by omega)).mono ?_; rintro e w3 ⟨rfl, hb3⟩
  rw [v75]
  go_wp2_with fail
  refine (line_no _ _ _ _ _ (by omega)).mono ?_; rintro e w4 ⟨rfl, hb4⟩
  go_wp2_with fail
  refine (bend_no _ _ _ _ _ _ _ (by omega)).mono ?_; rintro e w5 ⟨rfl, hb5⟩
  go_wp2_with fail
  refine (clip_any _ _).mono ?_; rintro e w' ⟨rfl, rfl⟩
  rw [vc]
  go_wp2_with fail
  refine (add_any _ _ _ (by omega) (by omega) (by omega) (by omega)).mono ?_; rintro e w' ⟨rfl, rfl⟩
  rw [va]
  go_wp2_with fail
  refine (mul_any _ _ _).mono ?_; rintro e w' ⟨rfl, rfl⟩
  rw [vm1]
  go_wp2_with fail
  refine (mul_any _ _ _).mono ?_; rintro e w' ⟨rfl, rfl⟩
  rw [vm2]
  go_wp2_with fail
  refine (mul_any _ _ _).mono ?_; rintro e w' ⟨rfl, rfl⟩
  rw [vm3]
  go_wp2_with fail
  refine (mix_any _ 0 0 _ _ [] _ (by omega) (by omega) (by omega)).mono ?_; rintro e w' ⟨rfl, rfl⟩
  rw [vx1]
  go_wp2_with fail
  refine (mix_any _ _ _ _ _ [2147483647, 1, -1] _ (by omega) (fun _ => rfl) ?_).mono ?_
  · intro i hi
    match i, hi with
    | 0, _ => go_cell
    | 1, _ => go_cell
    | 2, _ => go_cell
  rintro e w' ⟨rfl, rfl⟩
  rw [vx2]
  go_wp2_with fail
  go_ret
  have s1 := hb1.size; have s2 := hb2.size; have s3 := hb3.size; have s4 := hb4.size
  exact ⟨rfl, ((((hb1.trans (hb2.mono (by omega))).trans (hb3.mono (by omega))).trans (hb4.mono (by omega))).trans (hb5.mono (by omega))).alloc (by have := hb5.size; omega) _⟩
end Go.Proofs.Ytcljkjachaecoaa
