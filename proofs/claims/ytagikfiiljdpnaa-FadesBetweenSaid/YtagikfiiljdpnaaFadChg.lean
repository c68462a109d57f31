/- The closures of the program's fade (layer 27). -/
import Derived.Test.YtagikfiiljdpnaaFadCat
import Derived.StillTailTactics
namespace Go.Proofs.Ytagikfiiljdpnaa
open Go.ChangeShapes Go.WideShapes Go.ChangeAt Go.RowKit

theorem mul_same (a g : Int) (w : World) :
    Calls Try.prog 33 #[.int .i64 a, .int .i64 g] w fun e w' => e = .returned (.int .i64 (gmul a g)) ∧ w' = w :=
  (mul_any a g w).mono fun _ _ h => ⟨h.1, h.2.symm⟩

/-- change: the element k of the slice that lies in block X. -/
theorem change_any (X gb n cp k : Nat) (x g : Int) (w : World) (hX : w.heap[X]? = some (.cells #[.slice (some ⟨gb, 0, none⟩) n cp] 27 (0, 0))) (hk : k < n)
    (hc : w.cell? ⟨gb, k, none⟩ = some (.int .i64 x)) (hf : w.frozen? ⟨gb, k, none⟩ = false) :
    Calls Try.prog 40 #[.int .i64 k, .int .i64 g, .pointer (some ⟨X, 0, none⟩)] w fun e w' => (∃ v, e = .returned v) ∧ w' = (w.setCell ⟨gb, k, none⟩ (.int .i64 (gmul x g))).drew := by
  have c0 := blk_cell hX 0
  simp at c0
  have q1 : (k : Int) < (n : Int) := by omega
  go_enter Try.func40, Try.ntmps40
  go_wp2_with fail
  go_still_tail 9, (by kernel_rfl)
  repeat still_step
  still_call (mul_same _ _ _)
  repeat still_step
  refine wpStill_nil ?_
  go_wp2
  go_end0
  exact ⟨⟨_, rfl⟩, rfl⟩

theorem in1_any (i : Int) (w : World) :
    Calls Try.prog 28 #[.int .i64 i] w fun e w' => e = .returned (.int .i64 i) ∧ w' = w := by
  go_enter Try.func28, Try.ntmps28
  go_wp2
  go_ret
  exact ⟨rfl, rfl⟩
theorem out1_any (D n cap i : Nat) (a : Option Addr) (w : World) (h : w.heap[D]? = some (.cells #[.slice a n cap] 27 (0, 0))) (hi : i < n) (hn : n ≤ 1000000) :
    Calls Try.prog 31 #[.int .i64 i, .pointer (some ⟨D, 0, none⟩)] w fun e w' => e = .returned (.int .i64 ((n - 1 - i : Nat) : Int)) ∧ w' = w := by
  have c0 := blk_cell h 0
  simp at c0
  have z1 : IntKind.i64.wrap ((n : Int) - 1 - (i : Int)) = ((n - 1 - i : Nat) : Int) := by rw [IntKind.wrap_i64]; omega
  have z0 : (n : Int) - 1 - (i : Int) = ((n - 1 - i : Nat) : Int) := by omega
  go_enter Try.func31, Try.ntmps31
  go_wp2
  go_ret
  exact ⟨by simp, rfl⟩
end Go.Proofs.Ytagikfiiljdpnaa
