/- The reference's At and Sample (layer 9). -/
import Derived.Test.YtafffmcmdhbghaaTemRef
import Derived.Test.YtafffmcmdhbghaaTemMono
import Derived.Test.YtafffmcmdhbghaaHeld
namespace Go.Proofs.Ytafffmcmdhbghaa
open Go.ChangeShapes Go.WideShapes Go.ChangeAt Go.RowKit Go.Shelf

set_option maxHeartbeats 4000000 in
theorem within_c (b off n cap : Nat) (l : List Tp) (k : Nat) (t : Int) (w : World) (h : Ts w (some ⟨b, off, none⟩) n b off l) (hch : Map l) (hk : k < n) (h0 : 0 ≤ t) (h1 : t ≤ 16777216) (hr : (nthT l k).2.2.2 = false) :
    Calls Try.prog 54 #[.slice (some ⟨b, off, none⟩) n cap, .int .i64 k, .int .i64 t] w fun e w' => e = .returned (.int .i64 (prt (nthT l k) (nthT l (k + 1)) t)) ∧ Below w.heap.size w w' := by
  have hn : n ≤ 64 := by rw [← h.1]; exact hch.2.1
  obtain ⟨c0, c1, c2, c3⟩ := h.2.2 k hk
  have hm := (hch.2.2.2.2 k (by rw [h.1]; exact hk)).1
  rw [prt_c hr]
  clear h hch
  generalize nthT l k = x at *
  obtain ⟨T, N, D, R⟩ := x
  obtain ⟨_, _, n1, n2, d1, d2⟩ := hm
  dsimp only at c0 c1 c2 c3 hr n1 n2 d1 d2 ⊢
  subst hr
  have mb := mul_le h0 h1 (show 0 ≤ N by omega) n2
  have u1 : IntKind.i64.wrap (t * N) = t * N := wrap_id (by omega)
  have td : (t * N).tdiv D = t * N / D := Int.tdiv_eq_ediv_of_nonneg mb.1
  have zb : (D == 0) = false := by simp; omega
  have zb2 : ¬ D = 0 := by omega
  have q0 : 0 ≤ t * N / D := Int.ediv_nonneg mb.1 (by omega)
  have q1 : t * N / D ≤ t * N := Int.ediv_le_self _ mb.1
  obtain ⟨V, hV⟩ : ∃ V, V = t * N / D := ⟨_, rfl⟩
  rw [← hV] at td q0 q1 ⊢
  have zq : IntKind.i64.wrap V = V := wrap_id (by omega)
  clear hV
  go_enter Try.func54, Try.ntmps54
  go_wp2
  go_ret
  exact ⟨rfl, (Below.refl _ _).alloc (Nat.le_refl _) _⟩

set_option maxHeartbeats 4000000 in
theorem within_r (b off n cap : Nat) (l : List Tp) (k : Nat) (t : Int) (w : World) (h : Ts w (some ⟨b, off, none⟩) n b off l) (hch : Map l) (hk : k + 1 < n) (h0 : 0 ≤ t) (h1 : t ≤ (nthT l (k + 1)).1 - (nthT l k).1) (hr : (nthT l k).2.2.2 = true) :
    Calls Try.prog 54 #[.slice (some ⟨b, off, none⟩) n cap, .int .i64 k, .int .i64 t] w fun e w' => e = .returned (.int .i64 (prt (nthT l k) (nthT l (k + 1)) t)) ∧ Below w.heap.size w w' := by
  have hn : n ≤ 64 := by rw [← h.1]; exact hch.2.1
  have hbw := (h.2.1 (by omega)).2
  obtain ⟨c0, c1, c2, c3⟩ := h.2.2 k (by omega)
  obtain ⟨e0, e1, e2, e3⟩ := h.2.2 (k + 1) hk
  have hok := map_ok hch (k := k) (by rw [h.1]; omega)
  obtain ⟨hq, hf⟩ := hok.2 hr
  obtain ⟨b1, b2, b3, b4, b5, b6, b7⟩ := ramp_bd hok.1 hq hf
  have hq1 := hq.1; have hq2 := hq.2.1; have hp1 := hok.1.1; have hp2 := hok.1.2.1
  have nb := num_bd hok.1 hq hf (s := 0) (t := t) (by omega) h0 h1
  rw [num_zero, Int.sub_zero, Int.sub_zero] at nb
  have db := den_pos hok.1 hq hf
  rw [prt_num hr]
  have hx : (0 ≤ 2 * ((nthT l (k + 1)).1 - (nthT l k).1) * (nthT l k).2.1 * (nthT l (k + 1)).2.2.1 * t ∧ 2 * ((nthT l (k + 1)).1 - (nthT l k).1) * (nthT l k).2.1 * (nthT l (k + 1)).2.2.1 * t ≤ 2305843009213693952) ∧ (-17592186044416 ≤ ((nthT l (k + 1)).2.1 * (nthT l k).2.2.1 - (nthT l k).2.1 * (nthT l (k + 1)).2.2.1) * t ∧ ((nthT l (k + 1)).2.1 * (nthT l k).2.2.1 - (nthT l k).2.1 * (nthT l (k + 1)).2.2.1) * t ≤ 17592186044416) ∧ -1152921504606846976 ≤ ((nthT l (k + 1)).2.1 * (nthT l k).2.2.1 - (nthT l k).2.1 * (nthT l (k + 1)).2.2.1) * t * t ∧ ((nthT l (k + 1)).2.1 * (nthT l k).2.2.1 - (nthT l k).2.1 * (nthT l (k + 1)).2.2.1) * t * t ≤ 1152921504606846976 := by
    have c1 := mul_le (show 0 ≤ 2 * ((nthT l (k + 1)).1 - (nthT l k).1) * (nthT l k).2.1 * (nthT l (k + 1)).2.2.1 by omega) b3.2 h0 (show t ≤ 65536 by omega)
    have c2 := abs_mul (x := (nthT l (k + 1)).2.1 * (nthT l k).2.2.1 - (nthT l k).2.1 * (nthT l (k + 1)).2.2.1) (y := t) (X := 268435456) (Y := 65536) (by omega) (by omega) h0 (by omega) (by omega)
    have c3 := abs_mul (x := ((nthT l (k + 1)).2.1 * (nthT l k).2.2.1 - (nthT l k).2.1 * (nthT l (k + 1)).2.2.1) * t) (y := t) (X := 268435456 * 65536) (Y := 65536) c2.1 c2.2 h0 (by omega) (by omega)
    omega
  unfold num den at nb ⊢
  unfold den at db
  clear h hch hok hq
  generalize nthT l k = x at *
  generalize nthT l (k + 1) = y at *
  obtain ⟨T, N, D, R⟩ := x
  obtain ⟨T', N', D', R'⟩ := y
  dsimp only at *
  subst hr
  have u0 : IntKind.i64.wrap (T' - T) = T' - T := wrap_id (by omega)
  have u1 : IntKind.i64.wrap (2 * (T' - T)) = 2 * (T' - T) := wrap_id (by omega)
  have u2 : IntKind.i64.wrap (2 * (T' - T) * N) = 2 * (T' - T) * N := wrap_id (by omega)
  have u3 : IntKind.i64.wrap (2 * (T' - T) * N * D') = 2 * (T' - T) * N * D' := wrap_id (by omega)
  have u4 : IntKind.i64.wrap (2 * (T' - T) * D) = 2 * (T' - T) * D := wrap_id (by omega)
  have u5 : IntKind.i64.wrap (2 * (T' - T) * D * D') = 2 * (T' - T) * D * D' := wrap_id (by omega)
  have u6 : IntKind.i64.wrap (N' * D) = N' * D := wrap_id (by omega)
  have u7 : IntKind.i64.wrap (N * D') = N * D' := wrap_id (by omega)
  have u8 : IntKind.i64.wrap (N' * D - N * D') = N' * D - N * D' := wrap_id (by omega)
  have u9 : IntKind.i64.wrap ((N' * D - N * D') * t) = (N' * D - N * D') * t := wrap_id (by omega)
  have ua : IntKind.i64.wrap (2 * (T' - T) * N * D' * t) = 2 * (T' - T) * N * D' * t := wrap_id (by omega)
  have ub : IntKind.i64.wrap ((N' * D - N * D') * t * t) = (N' * D - N * D') * t * t := wrap_id (by omega)
  have uc : IntKind.i64.wrap (2 * (T' - T) * N * D' * t + (N' * D - N * D') * t * t) = 2 * (T' - T) * N * D' * t + (N' * D - N * D') * t * t := wrap_id (by omega)
  have td : (2 * (T' - T) * N * D' * t + (N' * D - N * D') * t * t).tdiv (2 * (T' - T) * D * D') = (2 * (T' - T) * N * D' * t + (N' * D - N * D') * t * t) / (2 * (T' - T) * D * D') := Int.tdiv_eq_ediv_of_nonneg nb.1
  have zb : (2 * (T' - T) * D * D' == 0) = false := by simp only [beq_eq_false_iff_ne]; omega
  have zb2 : ¬ 2 * (T' - T) * D * D' = 0 := by omega
  have q0 : 0 ≤ (2 * (T' - T) * N * D' * t + (N' * D - N * D') * t * t) / (2 * (T' - T) * D * D') := Int.ediv_nonneg nb.1 (by omega)
  have q1 : (2 * (T' - T) * N * D' * t + (N' * D - N * D') * t * t) / (2 * (T' - T) * D * D') ≤ 2 * (T' - T) * N * D' * t + (N' * D - N * D') * t * t := Int.ediv_le_self _ nb.1
  obtain ⟨V, hV⟩ : ∃ V, V = (2 * (T' - T) * N * D' * t + (N' * D - N * D') * t * t) / (2 * (T' - T) * D * D') := ⟨_, rfl⟩
  rw [← hV] at td q0 q1 ⊢
  have zq : IntKind.i64.wrap V = V := wrap_id (by omega)
  clear hV nb hx
  have ek : IntKind.i64.wrap ((k : Int) + 1) = (k : Int) + 1 := wrap_id (by omega)
  have hBB := ((Below.refl w.heap.size w).alloc (Nat.le_refl _) (.cells #[.int .i64 T, .int .i64 N, .int .i64 D, .bool true] 49)).alloc (by simp) (.cells #[.int .i64 T', .int .i64 N', .int .i64 D', .bool R'] 49)
  have HBB := Lib.hid hBB
  clear hBB
  go_enter Try.func54, Try.ntmps54
  go_wp2
  go_ret
  exact ⟨rfl, HBB.out⟩

theorem within_any2 (b off n cap : Nat) (l : List Tp) (k : Nat) (t : Int) (w : World) (h : Ts w (some ⟨b, off, none⟩) n b off l) (hch : Map l) (hk : k < n) (h0 : 0 ≤ t) (h1 : t ≤ 16777216) (h2 : k + 1 < n → t ≤ (nthT l (k + 1)).1 - (nthT l k).1) :
    Calls Try.prog 54 #[.slice (some ⟨b, off, none⟩) n cap, .int .i64 k, .int .i64 t] w fun e w' => e = .returned (.int .i64 (prt (nthT l k) (nthT l (k + 1)) t)) ∧ Below w.heap.size w w' := by
  cases hr : (nthT l k).2.2.2
  · exact within_c b off n cap l k t w h hch hk h0 h1 hr
  · have hk1 := ramp_next hch (by rw [h.1]; exact hk) hr
    rw [h.1] at hk1
    exact within_r b off n cap l k t w h hch hk1 h0 (h2 hk1) hr
end Go.Proofs.Ytafffmcmdhbghaa
