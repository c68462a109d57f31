/- The reference's Check (layer 9). -/
import Derived.Test.YtafffmcmdhbghaaTemCheck
namespace Go.Proofs.Ytafffmcmdhbghaa
open Go.ChangeShapes Go.WideShapes Go.ChangeAt Go.RowKit

instance (m : Tp) : Decidable (okT m) := by unfold okT; infer_instance
instance (p m : Tp) : Decidable (folT p m) := by unfold folT; infer_instance
/-- A point is in order. -/
def okPt (l : List Tp) (i : Nat) : Prop := okT (nthT l i) ∧ (i = 0 → (nthT l i).1 = 0) ∧ (0 < i → folT (nthT l (i - 1)) (nthT l i))
instance (l : List Tp) (i : Nat) : Decidable (okPt l i) := by unfold okPt; infer_instance

set_option maxHeartbeats 4000000 in
theorem point_any (b off n cap : Nat) (l : List Tp) (i : Nat) (w : World) (h : Ts w (some ⟨b, off, none⟩) n b off l) (hi : i < n) (hy0 : 0 < i → 0 ≤ (nthT l (i - 1)).1) (hn : n ≤ 64) (hbw : b < w.heap.size) :
    Calls Try.prog 46 #[.slice (some ⟨b, off, none⟩) n cap, .int .i64 i] w fun e w' => e = .returned (.bool (decide (okPt l i))) ∧ Below w.heap.size w w' := by
  obtain ⟨c0, c1, c2, c3⟩ := h.2.2 i hi
  have HT := Lib.hid h
  clear h
  obtain ⟨x, hx⟩ : ∃ x, x = nthT l i := ⟨_, rfl⟩
  rw [← hx] at c0 c1 c2 c3
  have hiff : okPt l i ↔ (okT (nthT l i) ∧ (i = 0 → (nthT l i).1 = 0) ∧ (0 < i → folT (nthT l (i - 1)) (nthT l i))) := Iff.rfl
  obtain ⟨v, hv⟩ : ∃ v, v = decide (okPt l i) := ⟨_, rfl⟩
  rw [← hv]
  have hok : ∀ {P : Prop}, ((okT (nthT l i) ∧ (i = 0 → (nthT l i).1 = 0) ∧ (0 < i → folT (nthT l (i - 1)) (nthT l i))) → P) → ¬ P → v = false := fun f g => by rw [hv]; exact decide_eq_false fun h => g (f (hiff.1 h))
  have hyes : (okT (nthT l i) ∧ (i = 0 → (nthT l i).1 = 0) ∧ (0 < i → folT (nthT l (i - 1)) (nthT l i))) → v = true := fun h => by rw [hv]; exact decide_eq_true (hiff.2 h)
  clear hiff hv
  rw [← hx] at hok hyes
  obtain ⟨T, N, D, R⟩ := x
  have HX := Lib.hid hx
  clear hx
  dsimp only at c0 c1 c2 c3
  have hB1 := (Below.refl w.heap.size w).alloc (Nat.le_refl _) (.cells #[.int .i64 T, .int .i64 N, .int .i64 D, .bool R] 49)
  have HB1 := Lib.hid hB1
  clear hB1
  by_cases q0 : 0 ≤ T
  case neg =>
    have e := hok (fun h => h.1.1) q0
    rw [e]
    have d0 : decide (T < 0) = true := by simp; omega
    clear hok hyes e
    go_enter Try.func46, Try.ntmps46
    go_wp2
    go_ret
    exact ⟨rfl, HB1.out⟩
  have d0 : decide (T < 0) = false := by simp; omega
  by_cases q1 : T ≤ 16777216
  case neg =>
    have e := hok (fun h => h.1.2.1) q1
    rw [e]
    have d1 : decide (16777216 < T) = true := by simp; omega
    clear hok hyes e
    go_enter Try.func46, Try.ntmps46
    go_wp2
    go_ret
    exact ⟨rfl, HB1.out⟩
  have d1 : decide (16777216 < T) = false := by simp; omega
  by_cases q2 : 1 ≤ N
  case neg =>
    have e := hok (fun h => h.1.2.2.1) q2
    rw [e]
    have d2 : decide (N < 1) = true := by simp; omega
    clear hok hyes e
    go_enter Try.func46, Try.ntmps46
    go_wp2
    go_ret
    exact ⟨rfl, HB1.out⟩
  have d2 : decide (N < 1) = false := by simp; omega
  by_cases q3 : N ≤ 1048576
  case neg =>
    have e := hok (fun h => h.1.2.2.2.1) q3
    rw [e]
    have d3 : decide (1048576 < N) = true := by simp; omega
    clear hok hyes e
    go_enter Try.func46, Try.ntmps46
    go_wp2
    go_ret
    exact ⟨rfl, HB1.out⟩
  have d3 : decide (1048576 < N) = false := by simp; omega
  by_cases q4 : 1 ≤ D
  case neg =>
    have e := hok (fun h => h.1.2.2.2.2.1) q4
    rw [e]
    have d4 : decide (D < 1) = true := by simp; omega
    clear hok hyes e
    go_enter Try.func46, Try.ntmps46
    go_wp2
    go_ret
    exact ⟨rfl, HB1.out⟩
  have d4 : decide (D < 1) = false := by simp; omega
  by_cases q5 : D ≤ 256
  case neg =>
    have e := hok (fun h => h.1.2.2.2.2.2) q5
    rw [e]
    have d5 : decide (256 < D) = true := by simp; omega
    clear hok hyes e
    go_enter Try.func46, Try.ntmps46
    go_wp2
    go_ret
    exact ⟨rfl, HB1.out⟩
  have d5 : decide (256 < D) = false := by simp; omega
  rcases Nat.eq_zero_or_pos i with rfl | hi0
  · simp only [Nat.zero_mul, Nat.add_zero] at c0 c1 c2 c3
    by_cases q6 : T = 0
    case neg =>
      have e := hok (fun h => h.2.1 rfl) q6
      rw [e]
      have d6 : (T == 0) = false := by simp [q6]
      have d7 : decide (T = 0) = false := by simp [q6]
      clear hok hyes e
      go_enter Try.func46, Try.ntmps46
      go_wp2
      go_ret
      exact ⟨rfl, HB1.out⟩
    have e := hyes ⟨⟨q0, q1, q2, q3, q4, q5⟩, fun _ => q6, fun h => by omega⟩
    rw [e]
    clear hok hyes e
    subst q6
    go_enter Try.func46, Try.ntmps46
    go_wp2
    go_ret
    exact ⟨rfl, HB1.out⟩
  obtain ⟨j, rfl⟩ : ∃ j, i = j + 1 := ⟨i - 1, by omega⟩
  obtain ⟨p0, p1, p2, p3⟩ := HT.out.2.2 j (by omega)
  rw [Nat.add_sub_cancel] at hok hyes
  obtain ⟨y, hy⟩ : ∃ y, y = nthT l j := ⟨_, rfl⟩
  rw [← hy] at p0 p1 p2 p3 hok hyes
  rw [Nat.add_sub_cancel, ← hy] at hy0
  have hY0 := hy0 (by omega)
  clear hy0
  obtain ⟨Y, YN, YD, YR⟩ := y
  dsimp only at hY0
  have HY := Lib.hid hy
  clear hy
  dsimp only at p0 p1 p2 p3
  have ej : ((j + 1 : Nat) : Int) - 1 = (j : Int) := by omega
  have ez : ((j + 1 : Nat) : Int) ≠ 0 := by omega
  have HB2 := Lib.hid (HB1.out.alloc HB1.out.size (.cells #[.int .i64 Y, .int .i64 YN, .int .i64 YD, .bool YR] 49))
  by_cases q6 : Y < T
  case neg =>
    have e := hok (fun h => (h.2.2 (by omega)).1) q6
    rw [e]
    have d6 : decide (Y < T) = false := decide_eq_false q6
    clear hok hyes e q6
    go_enter Try.func46, Try.ntmps46
    go_wp2
    go_ret
    exact ⟨rfl, HB2.out⟩
  have d6 : decide (Y < T) = true := decide_eq_true q6
  cases YR
  · have e := hyes ⟨⟨q0, q1, q2, q3, q4, q5⟩, fun h => by omega, fun _ => ⟨q6, fun h => by cases h⟩⟩
    rw [e]
    clear hok hyes e
    go_enter Try.func46, Try.ntmps46
    go_wp2
    go_ret
    exact ⟨rfl, HB2.out⟩
  · by_cases q7 : T - Y ≤ 65536
    case neg =>
      have e := hok (fun h => (h.2.2 (by omega)).2 rfl) q7
      rw [e]
      have u1 : IntKind.i64.wrap (T - Y) = T - Y := by rw [IntKind.wrap_i64]; omega
      have d7 : decide (T - Y ≤ 65536) = false := decide_eq_false q7
      clear hok hyes e
      go_enter Try.func46, Try.ntmps46
      go_wp2
      go_ret
      exact ⟨rfl, HB2.out⟩
    have e := hyes ⟨⟨q0, q1, q2, q3, q4, q5⟩, fun h => by omega, fun _ => ⟨q6, fun _ => q7⟩⟩
    rw [e]
    have u1 : IntKind.i64.wrap (T - Y) = T - Y := by rw [IntKind.wrap_i64]; omega
    have d7 : decide (T - Y ≤ 65536) = true := decide_eq_true q7
    clear hok hyes e
    go_enter Try.func46, Try.ntmps46
    go_wp2
    go_ret
    exact ⟨rfl, HB2.out⟩

theorem okTo_pt {l : List Tp} {k : Nat} (h0 : 0 < k → (nthT l 0).1 = 0) : okTo l k ↔ ∀ i, i < k → okPt l i := by
  constructor
  · intro h i hi
    exact ⟨(h i hi).1, fun e => by subst e; exact h0 (by omega), (h i hi).2⟩
  · intro h i hi
    exact ⟨(h i hi).1, (h i hi).2.2⟩
theorem map_pt {l : List Tp} : Map l ↔ 1 ≤ l.length ∧ l.length ≤ 64 ∧ (nthT l (l.length - 1)).2.2.2 = false ∧ ∀ i, i < l.length → okPt l i := by
  constructor
  · rintro ⟨h1, h2, h3, h4, h5⟩
    exact ⟨h1, h2, h4, fun i hi => ⟨(h5 i hi).1, fun e => by subst e; exact h3, (h5 i hi).2⟩⟩
  · rintro ⟨h1, h2, h3, h4⟩
    exact ⟨h1, h2, (h4 0 (by omega)).2.1 rfl, h3, fun i hi => ⟨(h4 i hi).1, (h4 i hi).2.2⟩⟩

set_option maxHeartbeats 4000000 in
theorem rcheck_any (a : Option Addr) (n cap b off : Nat) (l : List Tp) (w : World) (h : Ts w a n b off l) (hn : n ≤ 9223372036854775807) :
    Calls Try.prog 33 #[.slice a n cap] w fun e w' => e = .returned (.int .i64 (chk l)) ∧ Below w.heap.size w w' := by
  have hl := h.1
  by_cases hn1 : n < 1
  · have e : chk l = 90 := chk_no fun k => by have := k.1; omega
    rw [e]
    go_enter Try.func33, Try.ntmps33
    go_wp2
    go_ret
    exact ⟨rfl, Below.refl _ _⟩
  by_cases hn2 : 64 < n
  · have e : chk l = 90 := chk_no fun k => by have := k.2.1; omega
    rw [e]
    clear h
    go_enter Try.func33, Try.ntmps33
    go_wp2
    go_ret
    exact ⟨rfl, Below.refl _ _⟩
  obtain ⟨rfl, hbw⟩ := h.2.1 (by omega)
  obtain ⟨_, _, _, c3⟩ := h.2.2 (n - 1) (by omega)
  obtain ⟨p, hp⟩ : ∃ p, p = n - 1 := ⟨_, rfl⟩
  rw [← hp] at c3
  have hpn : (n : Int) - 1 = (p : Int) := by omega
  have hpl : (p : Int) < (n : Int) := by omega
  have hpl2 : p < n := by omega
  have HT := Lib.hid h
  clear h
  cases hr : (nthT l p).2.2.2
  case true =>
    have e : chk l = 90 := chk_no fun g => by have := g.2.2.2.1; rw [hl, ← hp, hr] at this; cases this
    rw [e]
    rw [hr] at c3
    clear e hp hr
    go_enter Try.func33, Try.ntmps33
    go_wp2
    go_ret
    exact ⟨rfl, Below.refl _ _⟩
  rw [hr] at c3
  have H0 := Lib.hid (show _ ∧ _ ∧ _ from ⟨hp, hr, hl⟩)
  clear hl hp hr
  go_enter Try.func33, Try.ntmps33
  go_wp2
  clear c3 hpn hpl hpl2
  go_loopw [3] (fun i wr => ∃ k : Nat, k ≤ n ∧ i = .int .i64 k ∧ (∀ j, j < k → okPt l j) ∧ Below w.heap.size w wr) (fun i _ => n - (intOf i).toNat)
  case atStart => exact ⟨0, Nat.zero_le _, rfl, fun i hi => by omega, Below.refl _ _⟩
  case round =>
    obtain ⟨k, hk, rfl, hok, hb⟩ := hrel
    have HK := Lib.hid hok; clear hok
    by_cases hlt : k < n
    case neg =>
      obtain rfl : k = n := by omega
      have e : chk l = 0 := chk_yes (map_pt.2 ⟨by rw [H0.out.2.2]; omega, by rw [H0.out.2.2]; omega, by rw [H0.out.2.2, ← H0.out.1]; exact H0.out.2.1, by rw [H0.out.2.2]; exact HK.out⟩)
      have E0 := Lib.hid e; clear e
      go_wp2
      go_ret
      exact ⟨ret_int E0.out.symm, hb⟩
    go_wp2_with fail
    refine (point_any b off n cap l k wr (HT.out.grown hb) hlt (fun h => (HK.out (k - 1) (by omega)).1.1) (by omega) (by have := hb.size; omega)).mono ?_
    rintro e w2 ⟨rfl, hb2⟩
    replace hb := below_after hb hb2 hb.size
    clear hb2
    by_cases hkk : okPt l k
    · have d : decide (okPt l k) = true := decide_eq_true hkk
      rw [d]
      have HKK := Lib.hid hkk
      clear d hkk
      go_wp2
      go_roundw
      case rel => exact ⟨k + 1, by omega, by go_num, fun j hj => by
        by_cases e : j = k
        · rw [e]; exact HKK.out
        · exact HK.out j (by omega), hb⟩
      case measure => simp [intOf]; omega
    · have d : decide (okPt l k) = false := decide_eq_false hkk
      rw [d]
      have e : chk l = 90 := chk_no fun g => hkk ((map_pt.1 g).2.2.2 k (by rw [H0.out.2.2]; exact hlt))
      have E0 := Lib.hid e
      clear e d hkk
      go_wp2
      go_ret
      exact ⟨ret_int E0.out.symm, hb⟩
end Go.Proofs.Ytafffmcmdhbghaa
