/- Bounds of a curve's values (layer 12). -/
import Derived.Test.YtmblkmllamccnaaGes
namespace Go.Proofs.Ytmblkmllamccnaa

theorem between_in {a b lo hi x : Int} (h : min a b ≤ x ∧ x ≤ max a b) (a1 : lo ≤ a) (a2 : a ≤ hi) (b1 : lo ≤ b) (b2 : b ≤ hi) : lo ≤ x ∧ x ≤ hi := by omega
theorem mean_in {a b p q lo hi : Int} (hp : 0 ≤ p) (hq : 0 ≤ q) (h : 0 < p + q) (a1 : lo ≤ a) (a2 : a ≤ hi) (b1 : lo ≤ b) (b2 : b ≤ hi) : lo ≤ (a * p + b * q) / (p + q) ∧ (a * p + b * q) / (p + q) ≤ hi := by
  have m1 : lo * p ≤ a * p := Int.mul_le_mul_of_nonneg_right a1 hp
  have m2 : a * p ≤ hi * p := Int.mul_le_mul_of_nonneg_right a2 hp
  have m3 : lo * q ≤ b * q := Int.mul_le_mul_of_nonneg_right b1 hq
  have m4 : b * q ≤ hi * q := Int.mul_le_mul_of_nonneg_right b2 hq
  constructor
  · rw [Int.le_ediv_iff_mul_le h, Int.mul_add]; omega
  · refine Int.le_of_lt_add_one ?_
    rw [Int.ediv_lt_iff_lt_mul h, Int.add_mul, Int.mul_add, Int.one_mul]
    omega
theorem segV_in {k m : Kt} {p : Int} (h1 : okK 1099511627776 k) (h0 : k.1 ≤ p) (hp : p ≤ m.1) (hd : 1 ≤ m.1 - k.1) (hj : k.2.2.1 ≠ 1 → m.1 - k.1 ≤ 16777216) : -2147483648 ≤ segV k m p ∧ segV k m p ≤ 2147483647 := by
  obtain ⟨_, _, v1, v2, s1, s2, s3, s4⟩ := h1
  have l1 := clip_lo k.2.1; have l2 := clip_hi k.2.1; have l3 := clip_lo m.2.1; have l4 := clip_hi m.2.1
  unfold segV
  by_cases e1 : k.2.2.1 = 1
  · rw [if_pos e1]; exact ⟨v1, v2⟩
  · rw [if_neg e1]
    by_cases e2 : k.2.2.1 = 2
    · rw [if_pos e2]
      have h := line_in (a := clip k.2.1) (b := clip m.2.1) (num := p - k.1) hd (by omega) (by omega)
      unfold lineV
      exact between_in h l1 l2 l3 l4
    · rw [if_neg e2]
      obtain ⟨w1, w2, w3, w4⟩ := s3 (by omega)
      have h := bend_sum (num := p - k.1) hd (hj e1) (by omega) (by omega) w1 w2 w3 w4
      unfold bendV
      exact mean_in h.1 h.2.2.1 h.2.2.2.2 l1 l2 l3 l4
theorem valC_in {l : List Kt} (h : Curve l) (p : Int) : -2147483648 ≤ valC l p ∧ valC l p ≤ 2147483647 := by
  unfold valC valP
  have hs := cnt_sp h.1 p l.length (Nat.le_refl _)
  have hle := cnt_le l p l.length
  by_cases h0 : l.length = 0
  · rw [if_pos h0]; omega
  · rw [if_neg h0]
    have hk := fun i hi => (h.1.2 i hi).1
    by_cases h1 : cnt l p l.length = 0
    · rw [if_pos h1]
      have := hk 0 (by omega)
      exact ⟨this.2.2.1, this.2.2.2.1⟩
    · rw [if_neg h1]
      by_cases h2 : cnt l p l.length = l.length
      · rw [if_pos h2]
        have := hk (cnt l p l.length - 1) (by omega)
        exact ⟨this.2.2.1, this.2.2.2.1⟩
      · rw [if_neg h2]
        have a1 := hs.1 (cnt l p l.length - 1) (by omega)
        have a2 := hs.2 (cnt l p l.length) (Nat.le_refl _) (by omega)
        have a3 := (h.1.2 (cnt l p l.length) (by omega)).2 (by omega)
        refine segV_in (hk _ (by omega)) a1 (by omega) (by omega) fun hn => ?_
        have := h.2 (cnt l p l.length - 1) (by omega) hn
        rw [show cnt l p l.length - 1 + 1 = cnt l p l.length by omega] at this
        exact this
end Go.Proofs.Ytmblkmllamccnaa
