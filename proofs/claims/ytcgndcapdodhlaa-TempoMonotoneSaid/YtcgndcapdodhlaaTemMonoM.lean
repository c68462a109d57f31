/- How fast the samples of a map go: between its least and its greatest speed (layer 9). -/
import Derived.Test.YtcgndcapdodhlaaTemMono
namespace Go.Proofs.Ytcgndcapdodhlaa

/-- The speed of p is not less than N / D; not greater. -/
def geS (N D : Int) (p : Tp) : Prop := N * p.2.2.1 ≤ p.2.1 * D
def leS (N D : Int) (p : Tp) : Prop := p.2.1 * D ≤ N * p.2.2.1
theorem cancel_le {x y d : Int} (hd : 0 < d) (h : x * d ≤ y * d) : x ≤ y := Int.le_of_mul_le_mul_right h hd
theorem geS_trans {N D : Int} {p q : Tp} (hq : 0 < q.2.2.1) (hp : 0 ≤ p.2.2.1) (hD : 0 ≤ D) (h1 : geS N D q) (h2 : geS q.2.1 q.2.2.1 p) : geS N D p := by
  unfold geS at *
  refine cancel_le hq ?_
  have a := Int.mul_le_mul_of_nonneg_right h1 hp
  have b := Int.mul_le_mul_of_nonneg_right h2 hD
  grind
theorem leS_trans {N D : Int} {p q : Tp} (hq : 0 < q.2.2.1) (hp : 0 ≤ p.2.2.1) (hD : 0 ≤ D) (h1 : leS N D q) (h2 : leS q.2.1 q.2.2.1 p) : leS N D p := by
  unfold leS at *
  refine cancel_le hq ?_
  have a := Int.mul_le_mul_of_nonneg_right h1 hp
  have b := Int.mul_le_mul_of_nonneg_right h2 hD
  grind
theorem fl_lo {A B den X D : Int} (hd : 0 < den) (h : X * den ≤ (A - B) * D) (hD : 0 ≤ D) : X ≤ D * (A / den - B / den + 1) := by
  refine cancel_le hd (Int.le_trans h ?_)
  have a := Int.emod_add_mul_ediv A den
  have b := Int.emod_add_mul_ediv B den
  have a1 := Int.emod_lt_of_pos A hd
  have b1 := Int.emod_nonneg B (show den ≠ 0 by omega)
  have c : A - B ≤ (A / den - B / den + 1) * den := by grind
  have := Int.mul_le_mul_of_nonneg_right c hD
  grind
theorem fl_hi {A B den X D : Int} (hd : 0 < den) (h : (A - B) * D ≤ X * den) (hD : 0 ≤ D) : D * (A / den - B / den - 1) ≤ X := by
  refine cancel_le hd (Int.le_trans ?_ h)
  have a := Int.emod_add_mul_ediv A den
  have b := Int.emod_add_mul_ediv B den
  have a1 := Int.emod_nonneg A (show den ≠ 0 by omega)
  have b1 := Int.emod_lt_of_pos B hd
  have c : (A / den - B / den - 1) * den ≤ A - B := by grind
  have := Int.mul_le_mul_of_nonneg_right c hD
  grind
theorem fl_hi0 {A den X D : Int} (hd : 0 < den) (h : A * D ≤ X * den) (hD : 0 ≤ D) : D * (A / den) ≤ X := by
  refine cancel_le hd (Int.le_trans ?_ h)
  have a := Int.emod_add_mul_ediv A den
  have a1 := Int.emod_nonneg A (show den ≠ 0 by omega)
  have c : (A / den) * den ≤ A := by grind
  have := Int.mul_le_mul_of_nonneg_right c hD
  grind

theorem part_lo {p q : Tp} (h : okP p q) {N D s t : Int} (hD : 0 ≤ D) (hp : geS N D p) (hq : p.2.2.2 = true → geS N D q) (h0 : 0 ≤ s) (h1 : s ≤ t) (h2 : p.2.2.2 = true → t ≤ q.1 - p.1) :
    (t - s) * N ≤ D * (prt p q t - prt p q s + 1) := by
  cases hr : p.2.2.2
  · rw [prt_c hr, prt_c hr]
    obtain ⟨⟨_, _, n1, n2, d1, d2⟩, _⟩ := h
    refine fl_lo (by omega) ?_ hD
    have := Int.mul_le_mul_of_nonneg_left hp (show 0 ≤ t - s by omega)
    grind
  · obtain ⟨hqo, hf⟩ := h.2 hr
    have hd := den_pos h.1 hqo hf
    rw [prt_num hr, prt_num hr]
    refine fl_lo (by omega) ?_ hD
    have hq := hq hr
    have h2 := h2 hr
    rw [num_sub, Int.mul_assoc (t - s), Int.mul_assoc (t - s)]
    refine Int.mul_le_mul_of_nonneg_left ?_ (by omega)
    obtain ⟨_, _, n1, n2, d1, d2⟩ := h.1
    obtain ⟨_, _, n3, n4, d3, d4⟩ := hqo
    unfold geS at hp hq
    have a := Int.mul_le_mul_of_nonneg_left (Int.mul_le_mul_of_nonneg_left hp (show 0 ≤ q.2.2.1 by omega)) (show 0 ≤ 2 * (q.1 - p.1) - (s + t) by omega)
    have b := Int.mul_le_mul_of_nonneg_left (Int.mul_le_mul_of_nonneg_left hq (show 0 ≤ p.2.2.1 by omega)) (show 0 ≤ s + t by omega)
    unfold den
    grind
theorem part_hi {p q : Tp} (h : okP p q) {N D s t : Int} (hD : 0 ≤ D) (hp : leS N D p) (hq : p.2.2.2 = true → leS N D q) (h0 : 0 ≤ s) (h1 : s ≤ t) (h2 : p.2.2.2 = true → t ≤ q.1 - p.1) :
    D * (prt p q t - prt p q s - 1) ≤ (t - s) * N := by
  cases hr : p.2.2.2
  · rw [prt_c hr, prt_c hr]
    obtain ⟨⟨_, _, n1, n2, d1, d2⟩, _⟩ := h
    refine fl_hi (by omega) ?_ hD
    have := Int.mul_le_mul_of_nonneg_left hp (show 0 ≤ t - s by omega)
    grind
  · obtain ⟨hqo, hf⟩ := h.2 hr
    have hd := den_pos h.1 hqo hf
    rw [prt_num hr, prt_num hr]
    refine fl_hi (by omega) ?_ hD
    have hq := hq hr
    have h2 := h2 hr
    rw [num_sub, Int.mul_assoc (t - s), Int.mul_assoc (t - s)]
    refine Int.mul_le_mul_of_nonneg_left ?_ (by omega)
    obtain ⟨_, _, n1, n2, d1, d2⟩ := h.1
    obtain ⟨_, _, n3, n4, d3, d4⟩ := hqo
    unfold leS at hp hq
    have a := Int.mul_le_mul_of_nonneg_left (Int.mul_le_mul_of_nonneg_left hp (show 0 ≤ q.2.2.1 by omega)) (show 0 ≤ 2 * (q.1 - p.1) - (s + t) by omega)
    have b := Int.mul_le_mul_of_nonneg_left (Int.mul_le_mul_of_nonneg_left hq (show 0 ≤ p.2.2.1 by omega)) (show 0 ≤ s + t by omega)
    unfold den
    grind
theorem part_hi0 {p q : Tp} (h : okP p q) {N D t : Int} (hD : 0 ≤ D) (hp : leS N D p) (hq : p.2.2.2 = true → leS N D q) (h0 : 0 ≤ t) (h2 : p.2.2.2 = true → t ≤ q.1 - p.1) :
    D * prt p q t ≤ t * N := by
  cases hr : p.2.2.2
  · rw [prt_c hr]
    obtain ⟨⟨_, _, n1, n2, d1, d2⟩, _⟩ := h
    refine fl_hi0 (by omega) ?_ hD
    have := Int.mul_le_mul_of_nonneg_left hp h0
    grind
  · obtain ⟨hqo, hf⟩ := h.2 hr
    have hd := den_pos h.1 hqo hf
    rw [prt_num hr]
    refine fl_hi0 (by omega) ?_ hD
    have hq := hq hr
    have h2 := h2 hr
    have e := num_sub p q 0 t
    rw [num_zero, Int.sub_zero, Int.sub_zero, Int.zero_add] at e
    rw [e, Int.mul_assoc t, Int.mul_assoc t]
    refine Int.mul_le_mul_of_nonneg_left ?_ h0
    obtain ⟨_, _, n1, n2, d1, d2⟩ := h.1
    obtain ⟨_, _, n3, n4, d3, d4⟩ := hqo
    unfold leS at hp hq
    have a := Int.mul_le_mul_of_nonneg_left (Int.mul_le_mul_of_nonneg_left hp (show 0 ≤ q.2.2.1 by omega)) (show 0 ≤ 2 * (q.1 - p.1) - t by omega)
    have b := Int.mul_le_mul_of_nonneg_left (Int.mul_le_mul_of_nonneg_left hq (show 0 ≤ p.2.2.1 by omega)) h0
    unfold den
    grind

theorem go_lo {l : List Tp} (h : Map l) {N D : Int} (hD : 0 ≤ D) (hg : ∀ i, i < l.length → geS N D (nthT l i)) {j : Nat} {a : Int} (hj : inP l j a) : ∀ d, j + 1 + d < l.length →
    ((nthT l (j + 1 + d)).1 - a) * N ≤ D * (posT l (j + 1 + d) - atT l a j + (d + 1 : Nat)) := by
  intro d
  induction d with
  | zero =>
    intro hd
    have hx := hj.2.2 hd
    have := part_lo (map_ok h hj.1) hD (hg _ hj.1) (fun _ => hg _ hd) (s := a - (nthT l j).1) (t := (nthT l (j + 1)).1 - (nthT l j).1) (by have := hj.2.1; omega) (by omega) (fun _ => Int.le_refl _)
    simp only [Nat.add_zero, posT, atT]
    grind
  | succ d ih =>
    intro hd
    have ih := ih (by omega)
    have hl := map_lt h (k := j + 1 + d) hd
    have := part_lo (map_ok h (k := j + 1 + d) (by omega)) hD (hg _ (by omega)) (fun _ => hg _ hd) (s := 0) (t := (nthT l (j + 1 + d + 1)).1 - (nthT l (j + 1 + d)).1) (Int.le_refl _) (by omega) (fun _ => Int.le_refl _)
    rw [prt_zero] at this
    rw [← Nat.add_assoc (j + 1) d 1]
    simp only [posT]
    grind
theorem go_hi {l : List Tp} (h : Map l) {N D : Int} (hD : 0 ≤ D) (hg : ∀ i, i < l.length → leS N D (nthT l i)) {j : Nat} {a : Int} (hj : inP l j a) : ∀ d, j + 1 + d < l.length →
    D * (posT l (j + 1 + d) - atT l a j - 1) ≤ ((nthT l (j + 1 + d)).1 - a) * N := by
  intro d
  induction d with
  | zero =>
    intro hd
    have hx := hj.2.2 hd
    have := part_hi (map_ok h hj.1) hD (hg _ hj.1) (fun _ => hg _ hd) (s := a - (nthT l j).1) (t := (nthT l (j + 1)).1 - (nthT l j).1) (by have := hj.2.1; omega) (by omega) (fun _ => Int.le_refl _)
    simp only [Nat.add_zero, posT, atT]
    grind
  | succ d ih =>
    intro hd
    have ih := ih (by omega)
    have hl := map_lt h (k := j + 1 + d) hd
    have := part_hi0 (map_ok h (k := j + 1 + d) (by omega)) hD (hg _ (by omega)) (fun _ => hg _ hd) (t := (nthT l (j + 1 + d + 1)).1 - (nthT l (j + 1 + d)).1) (by omega) (fun _ => Int.le_refl _)
    rw [← Nat.add_assoc (j + 1) d 1]
    simp only [posT]
    grind
theorem smp_lo {l : List Tp} (h : Map l) {N D : Int} (hD : 0 < D) (hg : ∀ i, i < l.length → geS N D (nthT l i)) {a b : Int} (h0 : 0 ≤ a) (hab : a ≤ b) :
    (b - a) * N / D ≤ smp l b - smp l a + (l.length : Int) := by
  have i1 := inP_of h h0
  have i2 := inP_of h (show 0 ≤ b by omega)
  rw [smp_in h i1, smp_in h i2]
  have hle := inP_le h i1 i2 hab
  generalize ofT l a l.length = j at *
  generalize ofT l b l.length = k at *
  have key : (b - a) * N ≤ D * (atT l b k - atT l a j + ((k - j + 1 : Nat) : Int)) := by
    by_cases e : j = k
    · subst e
      have := part_lo (map_ok h i1.1) (Int.le_of_lt hD) (hg _ i1.1) (fun hr => hg _ (ramp_next h i1.1 hr)) (s := a - (nthT l j).1) (t := b - (nthT l j).1) (by have := i1.2.1; omega) (by omega) (fun hr => by have := i2.2.2 (ramp_next h i2.1 hr); omega)
      unfold atT
      rw [Nat.sub_self]
      grind
    · obtain ⟨d, rfl⟩ : ∃ d, k = j + 1 + d := ⟨k - (j + 1), by omega⟩
      have g := go_lo h (Int.le_of_lt hD) hg i1 d i2.1
      have := part_lo (map_ok h i2.1) (Int.le_of_lt hD) (hg _ i2.1) (fun hr => hg _ (ramp_next h i2.1 hr)) (s := 0) (t := b - (nthT l (j + 1 + d)).1) (Int.le_refl _) (by have := i2.2.1; omega) (fun hr => by have := i2.2.2 (ramp_next h i2.1 hr); omega)
      rw [prt_zero] at this
      rw [show j + 1 + d - j + 1 = d + 1 + 1 by omega]
      unfold atT at g ⊢
      grind
  have k2 : D * (atT l b k - atT l a j + ((k - j + 1 : Nat) : Int)) ≤ D * (atT l b k - atT l a j + (l.length : Int)) := Int.mul_le_mul_of_nonneg_left (by have := i2.1; omega) (Int.le_of_lt hD)
  have := Int.ediv_le_ediv hD (Int.le_trans key k2)
  rwa [Int.mul_ediv_cancel_left _ (by omega)] at this
theorem smp_hi {l : List Tp} (h : Map l) {N D : Int} (hD : 0 < D) (hg : ∀ i, i < l.length → leS N D (nthT l i)) {a b : Int} (h0 : 0 ≤ a) (hab : a ≤ b) :
    smp l b - smp l a ≤ (b - a) * N / D + (l.length : Int) := by
  have i1 := inP_of h h0
  have i2 := inP_of h (show 0 ≤ b by omega)
  rw [smp_in h i1, smp_in h i2]
  have hle := inP_le h i1 i2 hab
  generalize ofT l a l.length = j at *
  generalize ofT l b l.length = k at *
  have key : D * (atT l b k - atT l a j - 1) ≤ (b - a) * N := by
    by_cases e : j = k
    · subst e
      have := part_hi (map_ok h i1.1) (Int.le_of_lt hD) (hg _ i1.1) (fun hr => hg _ (ramp_next h i1.1 hr)) (s := a - (nthT l j).1) (t := b - (nthT l j).1) (by have := i1.2.1; omega) (by omega) (fun hr => by have := i2.2.2 (ramp_next h i2.1 hr); omega)
      unfold atT
      grind
    · obtain ⟨d, rfl⟩ : ∃ d, k = j + 1 + d := ⟨k - (j + 1), by omega⟩
      have g := go_hi h (Int.le_of_lt hD) hg i1 d i2.1
      have := part_hi0 (map_ok h i2.1) (Int.le_of_lt hD) (hg _ i2.1) (fun hr => hg _ (ramp_next h i2.1 hr)) (t := b - (nthT l (j + 1 + d)).1) (by have := i2.2.1; omega) (fun hr => by have := i2.2.2 (ramp_next h i2.1 hr); omega)
      unfold atT at g ⊢
      grind
  have := Int.ediv_le_ediv hD key
  rw [Int.mul_ediv_cancel_left _ (by omega)] at this
  have := i1.1
  omega
end Go.Proofs.Ytcgndcapdodhlaa
