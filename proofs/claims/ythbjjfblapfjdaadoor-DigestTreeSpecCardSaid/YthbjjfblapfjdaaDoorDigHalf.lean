/- half, the reference's (layer 2). -/
import Derived.Test.YthbjjfblapfjdaaDoorDigNode
import Derived.Shelf.Small.Bits
import Derived.Shelf.Lay
namespace Go.Proofs.YthbjjfblapfjdaaDoor
open Go.ChangeShapes Go.WideShapes Go.ChangeAt Go.RowKit
/-- The greatest power of 2 that is less than n. -/
def halfN (n : Nat) : Nat := 2 ^ Nat.log2 (n - 1)
theorem halfN_lt {n : Nat} (h : 1 < n) : halfN n < n := by
  have := Nat.log2_self_le (n := n - 1) (by omega)
  unfold halfN
  omega
theorem halfN_pos (n : Nat) : 0 < halfN n := Nat.pow_pos (by decide)
theorem half_step {n k : Nat} (h : 1 < n) : 2 * 2 ^ k < n ↔ k + 1 ≤ Nat.log2 (n - 1) := by
  rw [Nat.le_log2 (by omega), Nat.pow_succ]
  omega
def IsP (n p : Nat) : Prop := ∃ k, k ≤ Nat.log2 (n - 1) ∧ p = 2 ^ k
theorem half_any (n : Nat) (h : 1 < n) (hn : n ≤ 4611686018427387904) (w : World) :
    Calls Tryd.prog 35 #[.int .i64 n] w fun e w' => e = .returned (.int .i64 (halfN n)) ∧ w' = w := by
  go_enter Tryd.func35, Tryd.ntmps35
  go_wp2_with fail
  go_loopw [3] (fun v wr => ∃ p : Nat, IsP n p ∧ v = .int .i64 p ∧ wr = w) (fun v _ => n - (intOf v).toNat)
  case atStart => exact ⟨1, ⟨0, by omega, rfl⟩, rfl, rfl⟩
  case round =>
    obtain ⟨p, ⟨k, hk, hpe⟩, rfl, rfl⟩ := hrel
    have hp : 2 ^ k ≤ 2 ^ Nat.log2 (n - 1) := Nat.pow_le_pow_right (by decide) hk
    have hl := Nat.log2_self_le (n := n - 1) (by omega)
    have h0 : 0 < 2 ^ k := Nat.pow_pos (by decide)
    have hiff := half_step (k := k) h
    have hs : 2 ^ (k + 1) = 2 * 2 ^ k := by rw [Nat.pow_succ]; omega
    rw [← hpe] at hiff hs h0 hp
    have u1 : IntKind.i64.wrap (2 * (p : Int)) = ((2 * p : Nat) : Int) := (wrap_id (by omega)).trans (by omega)
    by_cases hlt : 2 * p < n
    · have i1 : ((2 * p : Nat) : Int) < (n : Int) := by omega
      have HK := Lib.hid (show _ ∧ _ ∧ _ from ⟨hiff, hs, hl⟩)
      clear hiff hs hl hp hpe
      go_wp2
      go_roundw
      case rel => exact ⟨2 * p, ⟨k + 1, HK.out.1.1 hlt, HK.out.2.1.symm⟩, by go_num, trivial⟩
      case measure => simp [intOf]; omega
    · have i1 : ¬ ((2 * p : Nat) : Int) < (n : Int) := by omega
      have HK := Lib.hid (show p = halfN n from by
        unfold halfN
        rw [hpe]
        congr 1
        have := mt hiff.2 hlt
        omega)
      clear hiff hs hl hp hpe
      go_wp2
      go_ret
      exact ⟨by simp only [go_sem]; try rw [← HK.out]; try rfl, rfl⟩
open Go.Shelf in
shelf_lay Lays.n125 Nm 125 at Tryd as Tryd.laysBitsLen
end Go.Proofs.YthbjjfblapfjdaaDoor
