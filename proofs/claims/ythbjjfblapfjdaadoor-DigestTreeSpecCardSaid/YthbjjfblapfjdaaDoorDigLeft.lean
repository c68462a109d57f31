/- left, the program's half (layer 2). -/
import Derived.Test.YthbjjfblapfjdaaDoorDigHalf
namespace Go.Proofs.YthbjjfblapfjdaaDoor
open Go.ChangeShapes Go.WideShapes Go.ChangeAt Go.RowKit
theorem blog (m : Nat) (h : m ≠ 0) (h2 : m < 2 ^ 64) : Lib.bitLen m = Nat.log2 m + 1 := by
  have h1 := Nat.log2_self_le h
  have h3 : m < 2 ^ (Nat.log2 m + 1) := Nat.lt_log2_self
  rw [Lib.bitLen_shift (Nat.log2 m) m h1 h2]
  have h4 : m / 2 ^ Nat.log2 m = 1 := Nat.div_eq_of_lt_le (by rw [Nat.one_mul]; exact h1) (by rw [Nat.pow_succ] at h3; omega)
  rw [h4]
  rfl
theorem left_any (n : Nat) (h : 1 < n) (hn : n ≤ 1152921504606846976) (w : World) :
    Calls Tryd.prog 33 #[.int .i64 n] w fun e w' => e = .returned (.int .i64 (halfN n)) ∧ w' = w := by
  obtain ⟨m, hm⟩ : ∃ m, m = n - 1 := ⟨_, rfl⟩
  have u1 : IntKind.i64.wrap ((n : Int) - 1) = (m : Int) := (wrap_id (by omega)).trans (by omega)
  have u2 : IntKind.u64.wrap (m : Int) = (m : Int) := by rw [IntKind.wrap_u64]; omega
  have hb : (Lib.bitLen m : Int) = ((Nat.log2 m + 1 : Nat) : Int) := by rw [blog m (by omega) (by omega)]
  obtain ⟨q, hq⟩ : ∃ q, q = Nat.log2 m := ⟨_, rfl⟩
  have hq60 : q < 61 := by rw [hq]; exact (Nat.log2_lt (by omega)).2 (by omega)
  have u3 : IntKind.i64.wrap (((q + 1 : Nat) : Int) - 1) = (q : Int) := (wrap_id (by omega)).trans (by omega)
  have hp : halfN n = 2 ^ q := by unfold halfN; rw [hq, hm]
  have hlt := halfN_lt h
  have i1 : ¬ (q : Int) < 0 := by omega
  rw [← hq] at hb
  have hw : wrap64 ((2 : Int) ^ q) = (halfN n : Int) := by
    rw [show ((2 : Int) ^ q) = ((2 ^ q : Nat) : Int) by simp, ← hp]
    unfold wrap64
    omega
  have HP := Lib.hid (show _ ∧ _ from ⟨hp, hlt⟩)
  have hmb : m ≤ 1152921504606846976 := by omega
  clear hp hlt hq hm
  go_enter Tryd.func33, Tryd.ntmps33
  go_wp2_with (go_at_call 48; refine (Any.bits_Len Tryd.laysBitsLen (m : Int) _ (by omega) (by omega)).mono ?_; rintro e w' ⟨rfl, rfl⟩; rw [Int.toNat_natCast, hb])
  go_ret
  exact ⟨by simp only [hw]; rfl, rfl⟩
end Go.Proofs.YthbjjfblapfjdaaDoor
