/- The specification's Windows, and the arithmetic of windows (layer 52). -/
import Derived.Test.YtgeplpigmjmfdaaMetHold
namespace Go.Proofs.Ytgeplpigmjmfdaa
open Go.ChangeShapes Go.WideShapes Go.ChangeAt Go.RowKit

/-- The energy of s elements from p on. -/
def winV (l : List Int) (p s : Nat) : Int := enV ((l.drop p).take s) s
def winL (l : List Int) (s h k : Nat) : List Int := (List.range k).map fun j => winV l (j * h) s
theorem winL_len (l : List Int) (s h k : Nat) : (winL l s h k).length = k := by simp [winL]
theorem winL_succ (l : List Int) (s h k : Nat) : winL l s h (k + 1) = winL l s h k ++ [winV l (k * h) s] := by simp [winL, List.range_succ]
/-- How many windows there are. -/
def cnt (n s h : Nat) : Nat := if s ≤ n then (n - s) / h + 1 else 0
theorem cnt_lt {n s h k : Nat} (hh : 1 ≤ h) : k < cnt n s h ↔ k * h + s ≤ n := by
  unfold cnt
  split
  · rw [Nat.lt_succ_iff, Nat.le_div_iff_mul_le (by omega)]
    omega
  · omega
theorem cnt_le {n s h : Nat} : cnt n s h ≤ n + 1 := by
  unfold cnt
  split
  · have := Nat.div_le_self (n - s) h
    omega
  · omega

set_option maxHeartbeats 1000000 in
theorem rwindows_ok (a : Option Addr) (b off n cap s h : Nat) (l : List Int) (w : World) (hR : Row w a b off n l) (hn : n ≤ 65536) (hcap : n ≤ cap) (hcm : cap ≤ 9223372036854775807) (hs1 : 1 ≤ s) (hs2 : s ≤ 65536) (hh1 : 1 ≤ h) (hh2 : h ≤ 16777216) :
    Calls Try.prog 12 #[.slice a n cap, .int .i64 s, .int .i64 h] w fun e w' => ∃ v, e = .returned (.tuple #[v, .int .i64 0]) ∧ Ints w' w.heap.size v (winL l s h (cnt n s h)) ∧ Below w.heap.size w w' := by
  have HR := Lib.hid hR; clear hR
  go_enter Try.func12, Try.ntmps12
  go_wp2
  go_loopw [8, 9] (fun v i wr => ∃ k p : Nat, k ≤ cnt n s h ∧ p = k * h ∧ (p ≤ n + h) ∧ i = .int .i64 p ∧ Ints wr w.heap.size v (winL l s h k) ∧ Below w.heap.size w wr) (fun _ i _ => n + 1 - (intOf i).toNat)
  case atStart => exact ⟨0, 0, Nat.zero_le _, by simp, by omega, rfl, Ints.nil _ _, Below.refl _ _⟩
  case round =>
    obtain ⟨k, p, hk, hp, hpn, rfl, hO, hB⟩ := hrel
    have HP := Lib.hid hp; have HK := Lib.hid hk; clear hp hk
    have kn := Nat.le_trans HK.out cnt_le
    by_cases hlt : p + s ≤ n
    · obtain rfl := HR.out.adr (by omega)
      have hs := hB.size
      have hRow := (HR.out.below hB (Nat.le_refl _)).sub hlt
      have HW := Lib.hid hRow; have HB := Lib.hid hB; clear hRow hB
      go_wp2_with (first | (go_at_call 20; refine (rsum_any _ b (off + p) _ _ _ _ HW.out hs2).mono ?_; rintro e w' ⟨rfl, rfl⟩) | (at_builtin; refine wpList_append_int rfl _ _ rfl w.heap.size _ _ rfl (hO.alloc _) _ _ rfl _ _ (blk_new _ _) (by rw [winL_len]; omega) (by simp; omega) ?_; intro v' w1 hO1 hB1 _))
      have HO1 := Lib.hid hO1; clear hO1
      go_roundw
      case rel => exact ⟨k + 1, p + h, by have := (cnt_lt (n := n) (s := s) (k := k) hh1).2 (by rw [← HP.out]; exact hlt); omega, by rw [HP.out, Nat.succ_mul], by omega, by go_num, by rw [winL_succ, ← HP.out]; exact HO1.out, (HB.out.alloc hs _).trans hB1⟩
      case measure => simp [intOf]; omega
    · have hk : k = cnt n s h := by
        have h1 : ¬ k < cnt n s h := fun g => hlt (by have := (cnt_lt hh1).1 g; rwa [← HP.out] at this)
        have := HK.out
        omega
      go_wp2
      go_ret2
      exact ⟨_, rfl, hk ▸ hO, hB⟩

theorem rwindows_no (a : Option Addr) (n cap : Nat) (s h : Int) (w : World) (hv : ¬ ((1 ≤ s ∧ s ≤ 65536) ∧ (1 ≤ h ∧ h ≤ 16777216))) :
    Calls Try.prog 12 #[.slice a n cap, .int .i64 s, .int .i64 h] w fun e w' => e = .returned (.tuple #[.slice none 0 0, .int .i64 1]) ∧ w = w' := by
  rcases (show s < 1 ∨ (1 ≤ s ∧ 65536 < s) ∨ ((1 ≤ s ∧ s ≤ 65536) ∧ h < 1) ∨ ((1 ≤ s ∧ s ≤ 65536) ∧ 1 ≤ h ∧ 16777216 < h) by omega) with h1 | h1 | h1 | h1
  all_goals
    clear hv
    go_enter Try.func12, Try.ntmps12
    go_wp2
    go_ret2
    exact ⟨rfl, rfl⟩
end Go.Proofs.Ytgeplpigmjmfdaa
