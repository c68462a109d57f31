/- How many samples a part lasts (layer 9). -/
import Derived.Test.YtafffmcmdhbghaaTemCheck
import Derived.Test.YtafffmcmdhbghaaDiv
import Derived.Test.YtafffmcmdhbghaaRound
namespace Go.Proofs.Ytafffmcmdhbghaa
open Go.ChangeShapes Go.WideShapes Go.ChangeAt Go.RowKit

/-- The samples of the first t ticks of a part from p on, up to q. -/
def prt (p q : Tp) (t : Int) : Int :=
  if p.2.2.2 = true then (2 * (q.1 - p.1) * p.2.1 * q.2.2.1 * t + (q.2.1 * p.2.2.1 - p.2.1 * q.2.2.1) * t * t) / (2 * (q.1 - p.1) * p.2.2.1 * q.2.2.1) else t * p.2.1 / p.2.2.1
theorem prt_r {p q : Tp} {t : Int} (h : p.2.2.2 = true) : prt p q t = (2 * (q.1 - p.1) * p.2.1 * q.2.2.1 * t + (q.2.1 * p.2.2.1 - p.2.1 * q.2.2.1) * t * t) / (2 * (q.1 - p.1) * p.2.2.1 * q.2.2.1) := if_pos h
theorem prt_c {p q : Tp} {t : Int} (h : p.2.2.2 = false) : prt p q t = t * p.2.1 / p.2.2.1 := if_neg (by rw [h]; decide)
def encP (p q : Tp) : Value := .agg #[.int .i64 p.1, .int .i64 p.2.1, .int .i64 p.2.2.1, .bool p.2.2.2, .int .i64 q.1, .int .i64 q.2.1, .int .i64 q.2.2.1, .bool q.2.2.2]

theorem mul_le {x y X Y : Int} (h0 : 0 ≤ x) (h1 : x ≤ X) (h2 : 0 ≤ y) (h3 : y ≤ Y) : 0 ≤ x * y ∧ x * y ≤ X * Y :=
  ⟨Int.mul_nonneg h0 h2, Int.le_trans (Int.mul_le_mul_of_nonneg_right h1 h2) (Int.mul_le_mul_of_nonneg_left h3 (by omega))⟩
theorem mul_le1 {x y X Y : Int} (h0 : 1 ≤ x) (h1 : x ≤ X) (h2 : 1 ≤ y) (h3 : y ≤ Y) : 1 ≤ x * y ∧ x * y ≤ X * Y := by
  have a := mul_le (x := x) (y := y) (by omega) h1 (by omega) h3
  have b := Int.mul_pos (show 0 < x by omega) (show 0 < y by omega)
  omega
theorem abs_mul {x y X Y : Int} (h0 : -X ≤ x) (h1 : x ≤ X) (h2 : 0 ≤ y) (h3 : y ≤ Y) (hX : 0 ≤ X) : -(X * Y) ≤ x * y ∧ x * y ≤ X * Y := by
  have a := Int.mul_le_mul_of_nonneg_right h1 h2
  have b := Int.mul_le_mul_of_nonneg_right h0 h2
  have c := Int.mul_le_mul_of_nonneg_left h3 hX
  rw [Int.neg_mul] at b
  omega
theorem wrap_in (x : Int) : -9223372036854775808 ≤ IntKind.i64.wrap x ∧ IntKind.i64.wrap x ≤ 9223372036854775807 := by rw [IntKind.wrap_i64]; omega
theorem wrap_id {x : Int} (h : -9223372036854775808 ≤ x ∧ x ≤ 9223372036854775807) : IntKind.i64.wrap x = x := by rw [IntKind.wrap_i64]; omega

set_option maxHeartbeats 1000000 in
theorem samples_c (p q : Tp) (t : Int) (w : World) (hr : p.2.2.2 = false) (hp : okT p) (h0 : 0 ≤ t) (h1 : t ≤ 16777216) :
    Calls Try.prog 49 #[encP p q, .int .i64 t] w fun e w' => e = .returned (.int .i64 (prt p q t)) ∧ Below w.heap.size w w' := by
  rw [prt_c hr]
  obtain ⟨T, N, D, R⟩ := p
  obtain ⟨T', N', D', R'⟩ := q
  obtain ⟨_, _, n1, n2, d1, d2⟩ := hp
  dsimp only at hr n1 n2 d1 d2
  subst hr
  have mb := mul_le h0 h1 (show 0 ≤ N by omega) n2
  have u1 : IntKind.i64.wrap (t * N) = t * N := wrap_id (by omega)
  unfold encP
  dsimp only
  go_enter Try.func49, Try.ntmps49
  go_wp2_with (go_at_call 56; refine (div_any _ _ _ (by omega) (by omega) (by omega) (by omega)).mono ?_; rintro e w' ⟨rfl, rfl⟩)
  go_ret
  exact ⟨rfl, (Below.refl _ _).alloc (Nat.le_refl _) _⟩

/-- The bounds of the terms of a ramp. -/
theorem ramp_bd {p q : Tp} (hp : okT p) (hq : okT q) (hf : p.1 < q.1 ∧ q.1 - p.1 ≤ 65536) : (2 ≤ 2 * (q.1 - p.1) ∧ 2 * (q.1 - p.1) ≤ 131072) ∧
    (1 ≤ 2 * (q.1 - p.1) * p.2.1 ∧ 2 * (q.1 - p.1) * p.2.1 ≤ 137438953472) ∧ (1 ≤ 2 * (q.1 - p.1) * p.2.1 * q.2.2.1 ∧ 2 * (q.1 - p.1) * p.2.1 * q.2.2.1 ≤ 35184372088832) ∧
    (1 ≤ 2 * (q.1 - p.1) * p.2.2.1 ∧ 2 * (q.1 - p.1) * p.2.2.1 ≤ 33554432) ∧ (1 ≤ 2 * (q.1 - p.1) * p.2.2.1 * q.2.2.1 ∧ 2 * (q.1 - p.1) * p.2.2.1 * q.2.2.1 ≤ 8589934592) ∧
    (1 ≤ q.2.1 * p.2.2.1 ∧ q.2.1 * p.2.2.1 ≤ 268435456) ∧ (1 ≤ p.2.1 * q.2.2.1 ∧ p.2.1 * q.2.2.1 ≤ 268435456) := by
  obtain ⟨_, _, n1, n2, d1, d2⟩ := hp
  obtain ⟨_, _, n3, n4, d3, d4⟩ := hq
  have a1 : 2 ≤ 2 * (q.1 - p.1) ∧ 2 * (q.1 - p.1) ≤ 131072 := by omega
  have a2 := mul_le1 (show 1 ≤ 2 * (q.1 - p.1) by omega) a1.2 n1 n2
  have a3 := mul_le1 a2.1 a2.2 d3 d4
  have a4 := mul_le1 (show 1 ≤ 2 * (q.1 - p.1) by omega) a1.2 d1 d2
  have a5 := mul_le1 a4.1 a4.2 d3 d4
  have a6 := mul_le1 n3 n4 d1 d2
  have a7 := mul_le1 n1 n2 d3 d4
  exact ⟨a1, a2, a3, a4, a5, a6, a7⟩

set_option maxHeartbeats 2000000 in
theorem samples_r (p q : Tp) (t : Int) (w : World) (hr : p.2.2.2 = true) (hp : okT p) (hq : okT q) (hf : p.1 < q.1 ∧ q.1 - p.1 ≤ 65536) (h0 : 0 ≤ t) (h1 : t ≤ 16777216) :
    Calls Try.prog 49 #[encP p q, .int .i64 t] w fun e w' => (∃ v : Int, (t ≤ q.1 - p.1 → v = prt p q t) ∧ e = .returned (.int .i64 v)) ∧ Below w.heap.size w w' := by
  obtain ⟨b1, b2, b3, b4, b5, b6, b7⟩ := ramp_bd hp hq hf
  rw [prt_r hr]
  have hq1 := hq.1; have hq2 := hq.2.1; have hp1 := hp.1; have hp2 := hp.2.1
  have hx : t ≤ q.1 - p.1 → (0 ≤ 2 * (q.1 - p.1) * p.2.1 * q.2.2.1 * t ∧ 2 * (q.1 - p.1) * p.2.1 * q.2.2.1 * t ≤ 2305843009213693952) ∧ -1152921504606846976 ≤ (q.2.1 * p.2.2.1 - p.2.1 * q.2.2.1) * t * t ∧ (q.2.1 * p.2.2.1 - p.2.1 * q.2.2.1) * t * t ≤ 1152921504606846976 := fun ht => by
    have c1 := mul_le (show 0 ≤ 2 * (q.1 - p.1) * p.2.1 * q.2.2.1 by omega) b3.2 h0 (show t ≤ 65536 by omega)
    have c2 := abs_mul (x := q.2.1 * p.2.2.1 - p.2.1 * q.2.2.1) (y := t) (X := 268435456) (Y := 65536) (by omega) (by omega) h0 (by omega) (by omega)
    have c3 := abs_mul (x := (q.2.1 * p.2.2.1 - p.2.1 * q.2.2.1) * t) (y := t) (X := 268435456 * 65536) (Y := 65536) c2.1 c2.2 h0 (by omega) (by omega)
    omega
  have cm := abs_mul (x := q.2.1 * p.2.2.1 - p.2.1 * q.2.2.1) (y := t) (X := 268435456) (Y := 16777216) (by omega) (by omega) h0 (by omega) (by omega)
  obtain ⟨T, N, D, R⟩ := p
  obtain ⟨T', N', D', R'⟩ := q
  dsimp only at hr hf b1 b2 b3 b4 b5 b6 b7 hq1 hq2 hp1 hp2 hx cm ⊢
  subst hr
  have u0 : IntKind.i64.wrap (T' - T) = T' - T := wrap_id (by omega)
  have u1 : IntKind.i64.wrap (2 * (T' - T)) = 2 * (T' - T) := wrap_id (by omega)
  have u2 : IntKind.i64.wrap (2 * (T' - T) * N) = 2 * (T' - T) * N := wrap_id (by omega)
  have u3 : IntKind.i64.wrap (2 * (T' - T) * N * D') = 2 * (T' - T) * N * D' := wrap_id (by omega)
  have u4 : IntKind.i64.wrap (2 * (T' - T) * D) = 2 * (T' - T) * D := wrap_id (by omega)
  have u5 : IntKind.i64.wrap (2 * (T' - T) * D * D') = 2 * (T' - T) * D * D' := wrap_id (by omega)
  have u6 : IntKind.i64.wrap (N' * D) = N' * D := wrap_id (by omega)
  have u7 : IntKind.i64.wrap (N * D') = N * D' := wrap_id (by omega)
  have u8 : IntKind.i64.wrap (N' * D - N * D') = N' * D - N * D' := wrap_id (by omega)
  have u9 : IntKind.i64.wrap ((N' * D - N * D') * t) = (N' * D - N * D') * t := wrap_id (by omega)
  obtain ⟨X, hX⟩ : ∃ X, X = wrap64 (wrap64 (2 * (T' - T) * N * D' * t) + wrap64 ((N' * D - N * D') * t * t)) := ⟨_, rfl⟩
  have xb := wrap_in (wrap64 (2 * (T' - T) * N * D' * t) + wrap64 ((N' * D - N * D') * t * t))
  rw [IntWalk.i64_left] at xb
  rw [← hX] at xb
  have hXe : t ≤ T' - T → X = 2 * (T' - T) * N * D' * t + (N' * D - N * D') * t * t := fun ht => by
    have h := hx ht
    have e1 : wrap64 (2 * (T' - T) * N * D' * t) = 2 * (T' - T) * N * D' * t := IntWalk.wrap64_in _ (by omega)
    have e2 : wrap64 ((N' * D - N * D') * t * t) = (N' * D - N * D') * t * t := IntWalk.wrap64_in _ (by omega)
    rw [hX, e1, e2, IntWalk.wrap64_in _ (by omega)]
  have HX := Lib.hid hXe
  clear hXe hx
  have HX2 := Lib.hid hX
  clear hX
  unfold encP
  dsimp only
  go_enter Try.func49, Try.ntmps49
  go_wp2_with (go_at_call 56; refine (div_any _ _ _ (by omega) (by omega) (by rw [← HX2.out]; exact xb.1) (by rw [← HX2.out]; exact xb.2)).mono ?_; rintro e w' ⟨rfl, rfl⟩)
  go_ret
  exact ⟨⟨X / (2 * (T' - T) * D * D'), fun ht => by rw [HX.out ht], by rw [← HX2.out]; rfl⟩, (Below.refl _ _).alloc (Nat.le_refl _) _⟩
end Go.Proofs.Ytafffmcmdhbghaa
