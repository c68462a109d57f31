/- The closure of the program's Cross (layer 27). -/
import Derived.Test.YtagikfiiljdpnaaFadChg
namespace Go.Proofs.Ytagikfiiljdpnaa
open Go.ChangeShapes Go.WideShapes Go.ChangeAt Go.RowKit

theorem gain_same (i n : Int) (w : World) (h1 : 0 ≤ i) (h2 : i < n) (h3 : n ≤ 16777216) :
    Calls Try.prog 24 #[.int .i64 i, .int .i64 n] w fun e w' => e = .returned (.int .i64 (gainV i n)) ∧ w' = w :=
  (gain_any i n w h1 h2 h3).mono fun _ _ h => ⟨h.1, h.2.symm⟩
def gadd (a b : Int) : Int := clip (a + b)
theorem gmul_lo (a g : Int) : -2147483648 ≤ gmul a g := clip_lo _
theorem gmul_hi (a g : Int) : gmul a g ≤ 2147483647 := clip_hi _
theorem add_same (a b : Int) (w : World) (h1 : -2147483648 ≤ a) (h2 : a ≤ 2147483647) (h3 : -2147483648 ≤ b) (h4 : b ≤ 2147483647) :
    Calls Try.prog 23 #[.int .i64 a, .int .i64 b] w fun e w' => e = .returned (.int .i64 (gadd a b)) ∧ w' = w :=
  (add_any a b w (by omega) (by omega) (by omega) (by omega)).mono fun _ _ h => ⟨h.1, h.2.symm⟩
theorem radd_same (a b : Int) (w : World) (h1 : -2147483648 ≤ a) (h2 : a ≤ 2147483647) (h3 : -2147483648 ≤ b) (h4 : b ≤ 2147483647) :
    Calls Try.prog 36 #[.int .i64 a, .int .i64 b] w fun e w' => e = .returned (.int .i64 (gadd a b)) ∧ w' = w :=
  (radd_any a b w (by omega) (by omega) (by omega) (by omega)).mono fun _ _ h => ⟨h.1, h.2.symm⟩

def mixV (x y : Int) (k M : Nat) : Int := gadd (gmul x (gainV ((M - 1 - k : Nat) : Int) M)) (gmul y (gainV k M))
theorem mix_any (D0 D1 D2 D3 X gb an bn ac bc M st k cp ab ao bb bo : Nat) (x y z : Int) (w : World)
    (h0 : w.heap[D0]? = some (.cells #[.slice (some ⟨ab, ao, none⟩) an ac] 27 (0, 0))) (h1 : w.heap[D1]? = some (.cells #[.slice (some ⟨bb, bo, none⟩) bn bc] 27 (0, 0)))
    (h2 : w.heap[D2]? = some (.cells #[.int .i64 M] 3 (0, 0))) (h3 : w.heap[D3]? = some (.cells #[.int .i64 st] 3 (0, 0))) (hX : w.heap[X]? = some (.cells #[.slice (some ⟨gb, 0, none⟩) M cp] 27 (0, 0)))
    (hk : k < M) (hst : st + k < an) (hb : k < bn) (hM : M ≤ 1000000) (han : an ≤ 1000000)
    (ca : w.cell? ⟨ab, ao + (st + k), none⟩ = some (.int .i64 x)) (cb : w.cell? ⟨bb, bo + k, none⟩ = some (.int .i64 y)) (cc : w.cell? ⟨gb, k, none⟩ = some (.int .i64 z)) (hf : w.frozen? ⟨gb, k, none⟩ = false) :
    Calls Try.prog 32 #[.int .i64 k, .int .i64 (gainV k M), .pointer (some ⟨D0, 0, none⟩), .pointer (some ⟨D3, 0, none⟩), .pointer (some ⟨D2, 0, none⟩), .pointer (some ⟨D1, 0, none⟩), .pointer (some ⟨X, 0, none⟩)] w fun e w' =>
      (∃ v, e = .returned v) ∧ w' = (w.setCell ⟨gb, k, none⟩ (.int .i64 (mixV x y k M))).drew := by
  have c0 := blk_cell h0 0
  have c1 := blk_cell h1 0
  have c2 := blk_cell h2 0
  have c3 := blk_cell h3 0
  have c4 := blk_cell hX 0
  simp at c0 c1 c2 c3 c4
  go_enter Try.func32, Try.ntmps32
  have z1 : IntKind.i64.wrap ((st : Int) + (k : Int)) = ((st + k : Nat) : Int) := by rw [IntKind.wrap_i64]; omega
  have z2 : IntKind.i64.wrap ((M : Int) - 1) = (M : Int) - 1 := by rw [IntKind.wrap_i64]; omega
  have z3 : IntKind.i64.wrap ((M : Int) - 1 - (k : Int)) = ((M - 1 - k : Nat) : Int) := by rw [IntKind.wrap_i64]; omega
  have z4 : (st : Int) + (k : Int) = ((st + k : Nat) : Int) := by omega
  have z5 : (M : Int) - 1 - (k : Int) = ((M - 1 - k : Nat) : Int) := by omega
  have q1 : ((st + k : Nat) : Int) < (an : Int) := by omega
  have q2 : (k : Int) < (bn : Int) := by omega
  have q3 : (k : Int) < (M : Int) := by omega
  unfold mixV
  obtain ⟨p, hp⟩ : ∃ p, p = st + k := ⟨_, rfl⟩
  obtain ⟨q, hq⟩ : ∃ q, q = M - 1 - k := ⟨_, rfl⟩
  have b1 : (0 : Int) ≤ (q : Int) := by omega
  have b2 : (q : Int) < (M : Int) := by omega
  have b3 : (M : Int) ≤ 16777216 := by omega
  rw [← hp] at z1 z4 q1 ca
  rw [← hq] at z3 z5 ⊢
  have z6 : IntKind.i64.wrap (p : Int) = (p : Int) := by rw [IntKind.wrap_i64]; omega
  have z7 : IntKind.i64.wrap (q : Int) = (q : Int) := by rw [IntKind.wrap_i64]; omega
  have HPQ := Lib.hid (show _ ∧ _ from ⟨hp, hq⟩); clear hp hq hst
  go_wp2_with fail
  go_still_tail 23, (by kernel_rfl)
  repeat still_step
  still_call (gain_same _ _ _ b1 b2 b3)
  repeat still_step
  still_call (mul_same _ _ _)
  repeat still_step
  still_call (mul_same _ _ _)
  repeat still_step
  still_call (add_same _ _ _ (gmul_lo _ _) (gmul_hi _ _) (gmul_lo _ _) (gmul_hi _ _))
  repeat still_step
  refine wpStill_nil ?_
  go_wp2
  go_end0
  exact ⟨⟨_, rfl⟩, rfl⟩
end Go.Proofs.Ytagikfiiljdpnaa
