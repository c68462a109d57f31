/- Leaf contracts of gestures (layer 12). -/
import Derived.Test.YtmblkmllamccnaaGes
import Derived.Test.YtmblkmllamccnaaCrvCheck
import Derived.Test.YtmblkmllamccnaaSkip
import Derived.Laws.EntriesVeiled
namespace Go.Proofs.Ytmblkmllamccnaa
open Go.ChangeShapes Go.WideShapes Go.ChangeAt Go.RowKit

def satAdd (a b : Int) : Int := max (-9223372036854775808) (min (a + b) 9223372036854775807)
theorem clip_sat (a b : Int) : clip (satAdd a b) = clip (a + b) := by unfold clip satAdd; omega

theorem wadd_any (a b : Int) (w : World) (ha1 : -9223372036854775808 ≤ a) (ha2 : a ≤ 9223372036854775807) (hb1 : -9223372036854775808 ≤ b) (hb2 : b ≤ 9223372036854775807) :
    Calls Try.prog 52 #[.int .i64 a, .int .i64 b] w fun e w' => e = .returned (.int .i64 (satAdd a b)) ∧ w = w' := by
  go_enter Try.func52, Try.ntmps52
  go_wp2
  all_goals (go_ret; exact ⟨ret_int (by unfold satAdd; omega), rfl⟩)

theorem fadd_any (a b : Int) (w : World) (ha1 : -9223372036854775808 ≤ a) (ha2 : a ≤ 9223372036854775807) (hb1 : -9223372036854775808 ≤ b) (hb2 : b ≤ 9223372036854775807) :
    Calls Try.prog 44 #[.int .i64 a, .int .i64 b] w fun e w' => e = .returned (.int .i64 (clip (a + b))) ∧ w = w' := by
  go_enter Try.func44, Try.ntmps44
  go_wp2_with (first | (go_at_call 52; refine (wadd_any _ _ _ ha1 ha2 hb1 hb2).mono ?_; rintro e w' ⟨rfl, rfl⟩) | (go_at_call 51; refine (clip_any _ _).mono ?_; rintro e w' ⟨rfl, rfl⟩))
  go_ret
  exact ⟨ret_int (clip_sat _ _), rfl⟩

theorem radd_any (a b : Int) (w : World) (ha1 : -9223372036854775808 ≤ a) (ha2 : a ≤ 9223372036854775807) (hb1 : -9223372036854775808 ≤ b) (hb2 : b ≤ 9223372036854775807) :
    Calls Try.prog 37 #[.int .i64 a, .int .i64 b] w fun e w' => e = .returned (.int .i64 (clip (a + b))) ∧ w = w' := by
  go_enter Try.func37, Try.ntmps37
  go_wp2_with (go_at_call 19; refine (rclip_any _ _).mono ?_; rintro e w' ⟨rfl, rfl⟩)
  all_goals (go_ret; exact ⟨ret_int (by simp only [clip, wrap64] at *; omega), rfl⟩)

theorem replace_any (a b : Int) (w : World) : Calls Try.prog 42 #[.int .i64 a, .int .i64 b] w fun e w' => e = .returned (.int .i64 b) ∧ w = w' := by
  go_enter Try.func42, Try.ntmps42
  go_wp2
  go_ret
  exact ⟨rfl, rfl⟩
theorem to_any (g : Gt) (w : World) : Calls Try.prog 41 #[encG g] w fun e w' => e = .returned (.int .i64 g.t) ∧ Below w.heap.size w w' := by
  unfold encG
  go_enter Try.func41, Try.ntmps41
  go_wp2
  go_ret
  exact ⟨rfl, (Below.refl _ _).alloc (Nat.le_refl _) _⟩
theorem until_any (g : Gt) (w : World) : Calls Try.prog 43 #[encG g] w fun e w' => e = .returned (.int .i64 g.u) ∧ Below w.heap.size w w' := by
  unfold encG
  go_enter Try.func43, Try.ntmps43
  go_wp2
  go_ret
  exact ⟨rfl, (Below.refl _ _).alloc (Nat.le_refl _) _⟩
def tabM : Array Value := #[.nilFunc, .nilFunc, .func (.func 41) #[] #[], .func (.func 42) #[] #[], .func (.func 43) #[] #[], .func (.func 42) #[] #[], .func (.func 41) #[] #[], .func (.func 44) #[] #[]]
theorem modes_any (w : World) : Calls Try.prog 33 #[] w fun e w' => e = .returned (.agg tabM) ∧ Below w.heap.size w w' := by
  go_enter Try.func33, Try.ntmps33
  go_wp2
  exact bodyPost_ret (by simp [results, Try.results33, go_sem]; rfl) rfl ⟨rfl, (Below.refl _ _).alloc (Nat.le_refl _) _⟩
theorem reaching_any (a : Option Addr) (n cap : Nat) (f N : Int) (w : World) :
    Calls Try.prog 26 #[.slice a n cap, .int .i64 f, .int .i64 N] w fun e w' => e = .returned (.func (.func 32) #[] #[.pointer (some ⟨w.heap.size + 1, 0, none⟩), .pointer (some ⟨w.heap.size, 0, none⟩), .pointer (some ⟨w.heap.size + 1 + 1, 0, none⟩)]) ∧
      w' = ((w.alloc (.cells #[.slice a n cap] 22)).alloc (.cells #[.int .i64 f] 3)).alloc (.cells #[.int .i64 N] 3) := by
  go_enter Try.func26, Try.ntmps26
  go_wp2
  go_ret
  exact ⟨by simp, by simp⟩
end Go.Proofs.Ytmblkmllamccnaa
