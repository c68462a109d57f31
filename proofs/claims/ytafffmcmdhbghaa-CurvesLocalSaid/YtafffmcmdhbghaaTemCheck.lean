/- Points of tempo in memory; the contract of Check (layer 9). -/
import Derived.Test.YtafffmcmdhbghaaWithin
import Derived.BigQuiet
namespace Go.Proofs.Ytafffmcmdhbghaa
open Go.ChangeShapes Go.WideShapes Go.ChangeAt Go.RowKit

/-- A point: its tick, its speed N/D, whether a ramp begins there. -/
abbrev Tp := Int × Int × Int × Bool
def nthT (l : List Tp) (i : Nat) : Tp := l.getD i (0, 0, 0, false)
/-- The slice leads to the points l. -/
def Ts (w : World) (a : Option Addr) (n : Nat) (b off : Nat) (l : List Tp) : Prop :=
  l.length = n ∧ (0 < n → a = some ⟨b, off, none⟩ ∧ b < w.heap.size) ∧
  ∀ i, i < n → w.cell? ⟨b, off + i * 4, none⟩ = some (.int .i64 (nthT l i).1) ∧ w.cell? ⟨b, off + i * 4 + 1, none⟩ = some (.int .i64 (nthT l i).2.1) ∧ w.cell? ⟨b, off + i * 4 + 2, none⟩ = some (.int .i64 (nthT l i).2.2.1) ∧ w.cell? ⟨b, off + i * 4 + 3, none⟩ = some (.bool (nthT l i).2.2.2)
theorem Ts.below {B : Nat} {w w' : World} {a : Option Addr} {n b off : Nat} {l : List Tp} (h : Ts w a n b off l) (hb : Below B w w') (hB : b < B) : Ts w' a n b off l :=
  ⟨h.1, fun k => ⟨(h.2.1 k).1, Nat.lt_of_lt_of_le (h.2.1 k).2 hb.size⟩, fun i hi => by
    obtain ⟨h1, h2, h3, h4⟩ := h.2.2 i hi
    exact ⟨(hb.cell (p := ⟨b, _, none⟩) hB).trans h1, (hb.cell (p := ⟨b, _, none⟩) hB).trans h2, (hb.cell (p := ⟨b, _, none⟩) hB).trans h3, (hb.cell (p := ⟨b, _, none⟩) hB).trans h4⟩⟩
theorem Ts.grown {w w' : World} {a : Option Addr} {n b off : Nat} {l : List Tp} (h : Ts w a n b off l) (hb : Below w.heap.size w w') : Ts w' a n b off l := by
  by_cases hn : 0 < n
  · exact h.below hb (h.2.1 hn).2
  · exact ⟨h.1, fun k => absurd k hn, fun i hi => absurd hi (by omega)⟩

def okT (m : Tp) : Prop := 0 ≤ m.1 ∧ m.1 ≤ 16777216 ∧ 1 ≤ m.2.1 ∧ m.2.1 ≤ 1048576 ∧ 1 ≤ m.2.2.1 ∧ m.2.2.1 ≤ 256
/-- A point may follow another. -/
def folT (p m : Tp) : Prop := p.1 < m.1 ∧ (p.2.2.2 = true → m.1 - p.1 ≤ 65536)
def okTo (l : List Tp) (k : Nat) : Prop := ∀ i, i < k → okT (nthT l i) ∧ (0 < i → folT (nthT l (i - 1)) (nthT l i))
/-- The list is a tempo map. -/
def Map (l : List Tp) : Prop := 1 ≤ l.length ∧ l.length ≤ 64 ∧ (nthT l 0).1 = 0 ∧ (nthT l (l.length - 1)).2.2.2 = false ∧ okTo l l.length
theorem okTo_succ (l : List Tp) (k : Nat) : okTo l (k + 1) ↔ okTo l k ∧ okT (nthT l k) ∧ (0 < k → folT (nthT l (k - 1)) (nthT l k)) := by
  constructor
  · intro h; exact ⟨fun i hi => h i (by omega), h k (by omega)⟩
  · rintro ⟨h, h2⟩ i hi
    by_cases e : i = k
    · subst e; exact h2
    · exact h i (by omega)
noncomputable def chk (l : List Tp) : Int := by classical exact if Map l then 0 else 90
theorem chk_yes {l : List Tp} (h : Map l) : chk l = 0 := if_pos h
theorem chk_no {l : List Tp} (h : ¬ Map l) : chk l = 90 := if_neg h

set_option maxRecDepth 100000 in
set_option maxHeartbeats 4000000 in
theorem tcheck_any (a : Option Addr) (n cap b off : Nat) (l : List Tp) (w : World) (h : Ts w a n b off l) (hn : n ≤ 9223372036854775807) :
    Calls Try.prog 30 #[.slice a n cap] w fun e w' => e = .returned (.int .i64 (chk l)) ∧ Below w.heap.size w w' := by
  obtain ⟨hl, ha, hc⟩ := h
  have HC := Lib.hid hc; clear hc
  by_cases hn1 : n < 1
  · have e : chk l = 90 := chk_no fun k => by have := k.1; omega
    rw [e]
    go_enter Try.func30, Try.ntmps30
    go_wp2
    go_ret
    exact ⟨rfl, Below.refl _ _⟩
  by_cases hn2 : 64 < n
  · have e : chk l = 90 := chk_no fun k => by have := k.2.1; omega
    rw [e]
    go_enter Try.func30, Try.ntmps30
    go_wp2
    go_ret
    exact ⟨rfl, Below.refl _ _⟩
  obtain ⟨rfl, hbw⟩ := ha (by omega)
  obtain ⟨c0, _, _, _⟩ := HC.out 0 (by omega)
  simp only [Nat.zero_mul, Nat.add_zero] at c0
  by_cases h0 : (nthT l 0).1 = 0
  case neg =>
    have h0' : ((nthT l 0).1 != 0) = true := by simpa using h0
    have e : chk l = 90 := chk_no fun g => h0 g.2.2.1
    rw [e]
    clear h0 e
    go_enter Try.func30, Try.ntmps30
    go_wp2
    go_ret
    exact ⟨rfl, Below.refl _ _⟩
  have h0' : ((nthT l 0).1 != 0) = false := by simpa using h0
  obtain ⟨_, _, _, c3⟩ := HC.out (n - 1) (by omega)
  obtain ⟨p, hp⟩ : ∃ p, p = n - 1 := ⟨_, rfl⟩
  rw [← hp] at c3
  have hpn : (n : Int) - 1 = (p : Int) := by omega
  have hpl : (p : Int) < (n : Int) := by omega
  have hpl2 : p < n := by omega
  cases hr : (nthT l p).2.2.2
  case true =>
    have e : chk l = 90 := chk_no fun g => by have := g.2.2.2.1; rw [hl, ← hp, hr] at this; cases this
    rw [e]
    rw [hr] at c3
    clear e h0 hp
    go_enter Try.func30, Try.ntmps30
    go_wp2
    go_ret
    exact ⟨rfl, Below.refl _ _⟩
  rw [hr] at c3
  have H0 := Lib.hid (show _ ∧ _ ∧ _ from ⟨h0, hp, hr⟩); have HL := Lib.hid hl; clear h0 hl ha hp hr
  go_enter Try.func30, Try.ntmps30
  go_wp2
  clear c0 c3 hpn hpl hpl2
  go_loopw [31] (fun i wr => ∃ k : Nat, k ≤ n ∧ i = .int .i64 k ∧ okTo l k ∧ Below w.heap.size w wr) (fun i _ => n - (intOf i).toNat)
  case atStart => exact ⟨0, Nat.zero_le _, rfl, fun i hi => by omega, Below.refl _ _⟩
  case round =>
    obtain ⟨k, hk, rfl, hok, hb⟩ := hrel
    have HK := Lib.hid hok; clear hok
    by_cases hlt : k < n
    case neg =>
      obtain rfl : k = n := by omega
      have e : chk l = 0 := chk_yes ⟨by rw [HL.out]; omega, by rw [HL.out]; omega, H0.out.1, by rw [HL.out, ← H0.out.2.1]; exact H0.out.2.2, by rw [HL.out]; exact HK.out⟩
      have E0 := Lib.hid e; clear e
      go_wp2
      go_ret
      exact ⟨ret_int E0.out.symm, hb⟩
    obtain ⟨c0, c1, c2, c3⟩ := HC.out k hlt
    replace c0 := (hb.cell (p := ⟨b, off + k * 4, none⟩) hbw).trans c0
    replace c1 := (hb.cell (p := ⟨b, off + k * 4 + 1, none⟩) hbw).trans c1
    replace c2 := (hb.cell (p := ⟨b, off + k * 4 + 2, none⟩) hbw).trans c2
    replace c3 := (hb.cell (p := ⟨b, off + k * 4 + 3, none⟩) hbw).trans c3
    have hs := okTo_succ l k
    have hz := hb.size
    have HS := Lib.hid hs; clear hs
    have hbad : ¬ okT (nthT l k) → chk l = 90 := fun hx => chk_no fun g => hx (g.2.2.2.2 k (by rw [HL.out]; exact hlt)).1
    have hbad2 : 0 < k → ¬ folT (nthT l (k - 1)) (nthT l k) → chk l = 90 := fun h1 hx => chk_no fun g => hx ((g.2.2.2.2 k (by rw [HL.out]; exact hlt)).2 h1)
    generalize hx : nthT l k = x at *
    obtain ⟨B, E, U, R⟩ := x
    have HX := Lib.hid (show _ ∧ _ ∧ _ from ⟨hx, hbad, hbad2⟩); clear hx hbad hbad2
    dsimp only at c0 c1 c2 c3
    by_cases q1 : 0 ≤ B ∧ B ≤ 16777216
    case neg =>
      have v1 := within_f q1
      have E90 := Lib.hid (HX.out.2.1 fun h => q1 ⟨h.1, h.2.1⟩)
      clear q1
      go_wp2_with (go_at_call 29; refine (within_any _ _ _ _).mono ?_; rintro e w' ⟨rfl, rfl⟩)
      go_ret
      exact ⟨ret_int E90.out.symm, hb.alloc hz _⟩
    by_cases q3 : 1 ≤ E ∧ E ≤ 1048576
    case neg =>
      have v1 := within_t q1
      have v3 := within_f q3
      have E90 := Lib.hid (HX.out.2.1 fun h => q3 ⟨h.2.2.1, h.2.2.2.1⟩)
      clear q1 q3
      go_wp2_with (go_at_call 29; refine (within_any _ _ _ _).mono ?_; rintro e w' ⟨rfl, rfl⟩)
      go_ret
      exact ⟨ret_int E90.out.symm, hb.alloc hz _⟩
    by_cases q4 : 1 ≤ U ∧ U ≤ 256
    case neg =>
      have v1 := within_t q1
      have v3 := within_t q3
      have v4 := within_f q4
      have E90 := Lib.hid (HX.out.2.1 fun h => q4 ⟨h.2.2.2.2.1, h.2.2.2.2.2⟩)
      clear q1 q3 q4
      go_wp2_with (go_at_call 29; refine (within_any _ _ _ _).mono ?_; rintro e w' ⟨rfl, rfl⟩)
      go_ret
      exact ⟨ret_int E90.out.symm, hb.alloc hz _⟩
    have v1 := within_t q1
    have v3 := within_t q3
    have v4 := within_t q4
    have HM := Lib.hid (show okT (B, E, U, R) from ⟨q1.1, q1.2, q3.1, q3.2, q4.1, q4.2⟩)
    have qB := q1
    clear q1 q3 q4
    cases k with
    | zero =>
      simp only [Nat.zero_mul, Nat.add_zero] at c0 c1 c2 c3
      go_wp2_with (go_at_call 29; refine (within_any _ _ _ _).mono ?_; rintro e w' ⟨rfl, rfl⟩)
      go_quiet (fail)
      go_wp2
      go_roundw
      case rel => exact ⟨1, by omega, by go_num, HS.out.2 ⟨HK.out, HM.out, fun h => absurd h (by omega)⟩, below_drewN (hb.alloc hz _) _⟩
      case measure => simp [intOf]; omega
    | succ j =>
      obtain ⟨p0, _, _, p3⟩ := HC.out j (by omega)
      replace p0 := (hb.cell (p := ⟨b, off + j * 4, none⟩) hbw).trans p0
      replace p3 := (hb.cell (p := ⟨b, off + j * 4 + 3, none⟩) hbw).trans p3
      have hj : (j : Int) < n := by omega
      have hbr : b < wr.heap.size := by omega
      have ng : decide (((j : Int) + 1) > 0) = true := by simp
      have ng2 : decide (0 < ((j + 1 : Nat) : Int)) = true := by simp
      have yb : nthT l (j + 1 - 1) = nthT l j := rfl
      have okj := (HK.out j (by omega)).1
      generalize hy : nthT l j = y at *
      obtain ⟨Y, _, _, RY⟩ := y
      have yb1 : 0 ≤ Y ∧ Y ≤ 16777216 := ⟨okj.1, okj.2.1⟩
      have HY := Lib.hid (show _ ∧ _ from ⟨hy, yb⟩); clear hy yb okj
      dsimp only at p0 p3
      by_cases q5 : Y < B
      case neg =>
        have E90 := Lib.hid (HX.out.2.2 (by omega) fun h => q5 (by rw [HY.out.2] at h; exact h.1))
        have z5 : decide (B ≤ Y) = true := decide_eq_true (by omega)
        go_wp2_with (go_at_call 29; refine (within_any _ _ _ _).mono ?_; rintro e w' ⟨rfl, rfl⟩)
        go_quiet (fail)
        go_wp2
        go_ret
        exact ⟨ret_int E90.out.symm, below_drewN (hb.alloc hz _) _⟩
      have z5 : decide (B ≤ Y) = false := decide_eq_false (by omega)
      cases RY
      · go_wp2_with (go_at_call 29; refine (within_any _ _ _ _).mono ?_; rintro e w' ⟨rfl, rfl⟩)
        go_quiet (fail)
        go_wp2
        go_roundw
        case rel => exact ⟨j + 1 + 1, by omega, by go_num, HS.out.2 ⟨HK.out, HM.out, fun _ => by rw [HY.out.2]; exact ⟨q5, fun h => by cases h⟩⟩, below_drewN (hb.alloc hz _) _⟩
        case measure => simp [intOf]; omega
      · have u1 : IntKind.i64.wrap (B - Y) = B - Y := by rw [IntKind.wrap_i64]; omega
        by_cases q6 : B - Y ≤ 65536
        case neg =>
          have E90 := Lib.hid (HX.out.2.2 (by omega) fun h => q6 (by rw [HY.out.2] at h; exact h.2 rfl))
          have z6 : decide (65536 < B - Y) = true := decide_eq_true (by omega)
          go_wp2_with (go_at_call 29; refine (within_any _ _ _ _).mono ?_; rintro e w' ⟨rfl, rfl⟩)
          go_quiet (fail)
          go_wp2
          go_ret
          exact ⟨ret_int E90.out.symm, below_drewN (hb.alloc hz _) _⟩
        have z6 : decide (65536 < B - Y) = false := decide_eq_false (by omega)
        go_wp2_with (go_at_call 29; refine (within_any _ _ _ _).mono ?_; rintro e w' ⟨rfl, rfl⟩)
        go_quiet (fail)
        go_wp2
        go_roundw
        case rel => exact ⟨j + 1 + 1, by omega, by go_num, HS.out.2 ⟨HK.out, HM.out, fun _ => by rw [HY.out.2]; exact ⟨q5, fun _ => q6⟩⟩, below_drewN (hb.alloc hz _) _⟩
        case measure => simp [intOf]; omega
end Go.Proofs.Ytafffmcmdhbghaa
