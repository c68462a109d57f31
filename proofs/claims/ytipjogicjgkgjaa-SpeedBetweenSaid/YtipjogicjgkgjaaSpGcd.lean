/- Speeds and lengths (layer 26). -/
import Derived.Test.YtipjogicjgkgjaaSpLeaf
import Derived.Scope
namespace Go.Proofs.Ytipjogicjgkgjaa
open Go.ChangeShapes Go.WideShapes Go.ChangeAt Go.RowKit

theorem noGoto_ret {Q : Exit → Act → World → Prop} {a : Act} {w : World} (h : Q .ret a w) : Exit.noGoto Q .ret a w := h

/-- a / b is a speed. -/
def Spd (a b : Int) : Prop := (1 ≤ a ∧ a ≤ 64) ∧ (1 ≤ b ∧ b ≤ 64) ∧ Nat.gcd a.toNat b.toNat = 1
instance (a b : Int) : Decidable (Spd a b) := by unfold Spd; infer_instance
theorem spd_t {a b : Int} (h : Spd a b) : decide (Spd a b) = true := decide_eq_true h
theorem spd_f {a b : Int} (h : ¬ Spd a b) : decide (Spd a b) = false := decide_eq_false h

set_option maxHeartbeats 1000000 in
theorem isSpeed_any (a b : Int) (w : World) :
    Calls Try.prog 20 #[.int .i64 a, .int .i64 b] w fun e w' => e = .returned (.bool (decide (Spd a b))) ∧ w = w' := by
  by_cases ha : 1 ≤ a ∧ a ≤ 64
  · by_cases hb : 1 ≤ b ∧ b ≤ 64
    · have v1 := within_t ha; have v2 := within_t hb
      obtain ⟨A, rfl⟩ := Int.eq_ofNat_of_zero_le (show 0 ≤ a by omega)
      obtain ⟨B, rfl⟩ := Int.eq_ofNat_of_zero_le (show 0 ≤ b by omega)
      have hd : decide (Spd (A : Int) (B : Int)) = decide (Nat.gcd A B = 1) := by
        apply decide_eq_decide.2
        unfold Spd
        simp only [Int.toNat_natCast]
        exact ⟨fun h => h.2.2, fun h => ⟨ha, hb, h⟩⟩
      rw [hd]
      have HD := Lib.hid hd; clear hd
      go_enter Try.func20, Try.ntmps20
      go_wp2
      refine wp_scope_straight ?_
      go_wp2_with (go_at_call 21; refine (within_any _ _ _ _).mono ?_; rintro e w' ⟨rfl, rfl⟩)
      refine wp_label ?_
      go_wp2_with fail
      go_loop [5, 6] (fun d n => ∃ x y : Nat, n = .int .i64 x ∧ d = .int .i64 y ∧ 1 ≤ y ∧ y ≤ 64 ∧ x ≤ 64 ∧ Nat.gcd x y = Nat.gcd A B) (fun d _ => (intOf d).toNat)
      case atStart => exact ⟨A, B, rfl, rfl, by omega, by omega, by omega, rfl⟩
      case round =>
        obtain ⟨x, y, rfl, rfl, y1, y2, x1, hg⟩ := hrel
        have HG := Lib.hid hg; clear hg
        by_cases hz : x % y = 0
        · have hm : (x : Int) % (y : Int) = 0 := by omega
          have hgy : Nat.gcd A B = y := by rw [← HG.out]; exact Nat.gcd_eq_right (Nat.dvd_of_mod_eq_zero hz)
          go_wp2
          go_ret
          exact ⟨ret_bool (by rw [Bool.eq_iff_iff, decide_eq_true_iff, hgy, beq_iff_eq]; omega), rfl⟩
        · obtain ⟨z, hzz⟩ : ∃ z, z = x % y := ⟨_, rfl⟩
          have hm : (x : Int) % (y : Int) = (z : Int) := by omega
          have hlt : z < y := by rw [hzz]; exact Nat.mod_lt _ (by omega)
          have hz1 : ((z : Int) == 0) = false := by simp; omega
          have HZ := Lib.hid (show _ ∧ _ from ⟨hzz, hz⟩); clear hzz hz
          go_wp2
          go_round
          case rel => exact ⟨y, z, by go_num, by go_num, by have := HZ.out; omega, by omega, by omega, by rw [← HG.out, HZ.out.1, Nat.gcd_comm y, ← Nat.gcd_rec, Nat.gcd_comm]⟩
          case measure => simp [intOf]; omega
    · have v1 := within_t ha; have v2 := within_f hb
      have hd : decide (Spd a b) = false := spd_f fun h => hb h.2.1
      rw [hd]
      clear hd ha hb
      go_enter Try.func20, Try.ntmps20
      go_wp2
      refine wp_scope_straight ?_
      go_wp2_with (go_at_call 21; refine (within_any _ _ _ _).mono ?_; rintro e w' ⟨rfl, rfl⟩)
      refine noGoto_ret ?_
      go_ret
      exact ⟨rfl, rfl⟩
  · have v1 := within_f ha
    have hd : decide (Spd a b) = false := spd_f fun h => ha h.1
    rw [hd]
    clear hd ha
    go_enter Try.func20, Try.ntmps20
    go_wp2
    refine wp_scope_straight ?_
    go_wp2_with (go_at_call 21; refine (within_any _ _ _ _).mono ?_; rintro e w' ⟨rfl, rfl⟩)
    refine noGoto_ret ?_
    go_ret
    exact ⟨rfl, rfl⟩

def lenV (n a b : Int) : Int := if n = 0 then 0 else (n - 1) * b / a + 1
theorem lenV_bd {n a b : Int} (hn : 0 ≤ n) (hn2 : n ≤ 16777216) (ha : 1 ≤ a) (hb : 1 ≤ b) (hb2 : b ≤ 64) : 0 ≤ lenV n a b ∧ lenV n a b ≤ 1073741824 ∧ (1 ≤ n → 0 ≤ (n - 1) * b ∧ (n - 1) * b ≤ 1073741760 ∧ 0 ≤ (n - 1) * b / a ∧ (n - 1) * b / a ≤ 1073741760) := by
  have H : 1 ≤ n → 0 ≤ (n - 1) * b ∧ (n - 1) * b ≤ 1073741760 ∧ 0 ≤ (n - 1) * b / a ∧ (n - 1) * b / a ≤ 1073741760 := by
    intro h
    have p0 : 0 ≤ (n - 1) * b := Int.mul_nonneg (by omega) (by omega)
    have p1 : (n - 1) * b ≤ 16777215 * 64 := Int.mul_le_mul (by omega) hb2 (by omega) (by omega)
    have d0 : 0 ≤ (n - 1) * b / a := Int.ediv_nonneg p0 (by omega)
    have d1 : (n - 1) * b / a ≤ (n - 1) * b := Int.ediv_le_self a p0
    omega
  unfold lenV
  split
  · exact ⟨by omega, by omega, H⟩
  · have := H (by omega)
    exact ⟨by omega, by omega, H⟩

theorem length_any (n a b : Int) (w : World) (hn : 0 ≤ n) (hn2 : n ≤ 16777216) (ha : 1 ≤ a) (ha2 : a ≤ 64) (hb : 1 ≤ b) (hb2 : b ≤ 64) :
    Calls Try.prog 22 #[.int .i64 n, .int .i64 a, .int .i64 b] w fun e w' => e = .returned (.int .i64 (lenV n a b)) ∧ w = w' := by
  have hl := lenV_bd hn hn2 ha hb hb2
  unfold lenV at *
  by_cases h0 : n = 0
  · subst h0
    go_enter Try.func22, Try.ntmps22
    go_wp2
    go_ret
    exact ⟨rfl, rfl⟩
  · rw [if_neg h0]
    obtain ⟨p0, p1, d0, d1⟩ := hl.2.2 (by omega)
    have h1 : (n == 0) = false := by simpa using h0
    have HL := Lib.hid hl; have H0 := Lib.hid h0; clear hl h0
    go_enter Try.func22, Try.ntmps22
    go_wp2
    go_ret
    exact ⟨ret_int (by first | rfl | omega), rfl⟩

theorem rlength_any (n a b : Int) (w : World) (hn : 0 ≤ n) (hn2 : n ≤ 16777216) (ha : 1 ≤ a) (ha2 : a ≤ 64) (hb : 1 ≤ b) (hb2 : b ≤ 64) :
    Calls Try.prog 24 #[.int .i64 n, .int .i64 a, .int .i64 b] w fun e w' => e = .returned (.int .i64 (lenV n a b)) ∧ w = w' := by
  have hl := lenV_bd hn hn2 ha hb hb2
  unfold lenV at *
  by_cases h0 : n = 0
  · subst h0
    go_enter Try.func24, Try.ntmps24
    go_wp2
    go_ret
    exact ⟨rfl, rfl⟩
  · rw [if_neg h0]
    obtain ⟨p0, p1, d0, d1⟩ := hl.2.2 (by omega)
    have h1 : (n == 0) = false := by simpa using h0
    have HL := Lib.hid hl; have H0 := Lib.hid h0; clear hl h0
    go_enter Try.func24, Try.ntmps24
    go_wp2
    go_ret
    exact ⟨ret_int (by first | rfl | omega), rfl⟩

set_option maxHeartbeats 1000000 in
theorem valid_any (a b : Int) (w : World) :
    Calls Try.prog 23 #[.int .i64 a, .int .i64 b] w fun e w' => e = .returned (.bool (decide (Spd a b))) ∧ w = w' := by
  by_cases hr : (1 ≤ a ∧ a ≤ 64) ∧ (1 ≤ b ∧ b ≤ 64)
  · obtain ⟨ha, hb⟩ := hr
    obtain ⟨A, rfl⟩ := Int.eq_ofNat_of_zero_le (show 0 ≤ a by omega)
    obtain ⟨B, rfl⟩ := Int.eq_ofNat_of_zero_le (show 0 ≤ b by omega)
    have hd : decide (Spd (A : Int) (B : Int)) = decide (Nat.gcd A B = 1) := by
      apply decide_eq_decide.2
      unfold Spd
      simp only [Int.toNat_natCast]
      exact ⟨fun h => h.2.2, fun h => ⟨ha, hb, h⟩⟩
    rw [hd]
    have HD := Lib.hid hd; clear hd
    go_enter Try.func23, Try.ntmps23
    go_wp2
    go_loop [5] (fun d => ∃ k : Nat, 2 ≤ k ∧ d = .int .i64 k ∧ k ≤ 65 ∧ ∀ j : Nat, 2 ≤ j → j < k → ¬ (A % j = 0 ∧ B % j = 0)) (fun d => 70 - (intOf d).toNat)
    case atStart => exact ⟨2, Nat.le_refl _, by go_num, by omega, fun j h1 h2 => by omega⟩
    case round =>
      obtain ⟨k, hk, rfl, hk5, hno⟩ := hrel
      have HN := Lib.hid hno; clear hno
      by_cases hlt : k ≤ A ∧ k ≤ B
      · by_cases hdv : A % k = 0 ∧ B % k = 0
        · have m1 : (A : Int) % (k : Int) = 0 := by omega
          have m2 : (B : Int) % (k : Int) = 0 := by omega
          have hg : Nat.gcd A B ≠ 1 := fun hg => by
            have h1 : k ∣ Nat.gcd A B := Nat.dvd_gcd (Nat.dvd_of_mod_eq_zero hdv.1) (Nat.dvd_of_mod_eq_zero hdv.2)
            rw [hg] at h1
            have := Nat.le_of_dvd (by omega) h1
            omega
          have HG := Lib.hid hg; have HDV := Lib.hid hdv; clear hg hdv
          obtain ⟨l1, l2⟩ := hlt
          go_wp2
          go_ret
          exact ⟨ret_bool ((decide_eq_false HG.out).symm), rfl⟩
        · obtain ⟨l1, l2⟩ := hlt
          by_cases hA : A % k = 0
          · have m1 : (A : Int) % (k : Int) = 0 := by omega
            have m2 : ¬ (B : Int) % (k : Int) = 0 := by omega
            have m3 : ((B : Int) % (k : Int) == 0) = false := by simpa using m2
            have HDV := Lib.hid (show _ ∧ _ from ⟨hdv, hA⟩); clear hdv hA
            go_wp2
            go_round
            case rel => exact ⟨k + 1, by omega, by go_num, by omega, fun j j1 j2 h => by
              rcases Nat.lt_or_ge j k with g | g
              · exact HN.out j j1 g h
              · obtain rfl : j = k := by omega
                exact HDV.out.1 h⟩
            case measure => simp [intOf]; omega
          · have m2 : ¬ (A : Int) % (k : Int) = 0 := by omega
            have m3 : ((A : Int) % (k : Int) == 0) = false := by simpa using m2
            have HDV := Lib.hid (show _ ∧ _ from ⟨hdv, hA⟩); clear hdv hA
            go_wp2
            go_round
            case rel => exact ⟨k + 1, by omega, by go_num, by omega, fun j j1 j2 h => by
              rcases Nat.lt_or_ge j k with g | g
              · exact HN.out j j1 g h
              · obtain rfl : j = k := by omega
                exact HDV.out.1 h⟩
            case measure => simp [intOf]; omega
      · have hg : Nat.gcd A B = 1 := by
          have hp : 0 < Nat.gcd A B := Nat.gcd_pos_of_pos_left _ (by omega)
          rcases Nat.lt_or_ge (Nat.gcd A B) 2 with g | g
          · omega
          · exfalso
            have e1 := Nat.mod_eq_zero_of_dvd (Nat.gcd_dvd_left A B)
            have e2 := Nat.mod_eq_zero_of_dvd (Nat.gcd_dvd_right A B)
            have l1 := Nat.le_of_dvd (by omega) (Nat.gcd_dvd_left A B)
            have l2 := Nat.le_of_dvd (by omega) (Nat.gcd_dvd_right A B)
            exact HN.out (Nat.gcd A B) g (by omega) ⟨e1, e2⟩
        have HG := Lib.hid hg; clear hg
        by_cases l1 : k ≤ A
        · have l2 : ¬ k ≤ B := fun g => hlt ⟨l1, g⟩
          have HLT := Lib.hid hlt; clear hlt
          go_wp2
          go_ret
          exact ⟨ret_bool ((decide_eq_true HG.out).symm), rfl⟩
        · have HLT := Lib.hid hlt; clear hlt
          go_wp2
          go_ret
          exact ⟨ret_bool ((decide_eq_true HG.out).symm), rfl⟩
  · have hd : decide (Spd a b) = false := spd_f fun h => hr ⟨h.1, h.2.1⟩
    rw [hd]
    rcases (show a < 1 ∨ (1 ≤ a ∧ 64 < a) ∨ ((1 ≤ a ∧ a ≤ 64) ∧ b < 1) ∨ ((1 ≤ a ∧ a ≤ 64) ∧ 1 ≤ b ∧ 64 < b) by omega) with h1 | h1 | h1 | h1
    all_goals
      clear hd hr
      go_enter Try.func23, Try.ntmps23
      go_wp2
      go_ret
      exact ⟨rfl, rfl⟩
end Go.Proofs.Ytipjogicjgkgjaa
