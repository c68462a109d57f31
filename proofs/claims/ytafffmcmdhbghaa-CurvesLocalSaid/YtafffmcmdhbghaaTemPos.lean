/- Where the parts of a map begin; bounds (layer 9). -/
import Derived.Test.YtafffmcmdhbghaaTemSamp
namespace Go.Proofs.Ytafffmcmdhbghaa
open Go.ChangeShapes Go.WideShapes Go.ChangeAt Go.RowKit

/-- The sample at which part k begins. -/
def posT (l : List Tp) : Nat → Int
  | 0 => 0
  | k + 1 => posT l k + prt (nthT l k) (nthT l (k + 1)) ((nthT l (k + 1)).1 - (nthT l k).1)
/-- A part is sound. -/
def okP (p q : Tp) : Prop := okT p ∧ (p.2.2.2 = true → okT q ∧ p.1 < q.1 ∧ q.1 - p.1 ≤ 65536)

theorem samples_any (p q : Tp) (t : Int) (w : World) (hp : okP p q) (h0 : 0 ≤ t) (h1 : t ≤ 16777216) :
    Calls Try.prog 49 #[encP p q, .int .i64 t] w fun e w' => (∃ v : Int, ((p.2.2.2 = true → t ≤ q.1 - p.1) → v = prt p q t) ∧ e = .returned (.int .i64 v)) ∧ Below w.heap.size w w' := by
  cases hr : p.2.2.2
  · refine (samples_c p q t w hr hp.1 h0 h1).mono ?_
    rintro e w' ⟨rfl, hB⟩
    exact ⟨⟨_, fun _ => rfl, rfl⟩, hB⟩
  · obtain ⟨h2, h3, h4⟩ := hp.2 hr
    refine (samples_r p q t w hr hp.1 h2 ⟨h3, h4⟩ h0 h1).mono ?_
    rintro e w' ⟨⟨v, hv, rfl⟩, hB⟩
    exact ⟨⟨v, fun h => hv (h rfl), rfl⟩, hB⟩

theorem map_ok {l : List Tp} (h : Map l) {k : Nat} (hk : k < l.length) : okP (nthT l k) (nthT l (k + 1)) := by
  obtain ⟨_, _, _, h4, h5⟩ := h
  refine ⟨(h5 k hk).1, fun hr => ?_⟩
  have hk1 : k + 1 < l.length := by
    rcases Nat.lt_or_ge (k + 1) l.length with h | h
    · exact h
    · obtain rfl : l.length - 1 = k := by omega
      rw [h4] at hr; cases hr
  obtain ⟨a, b⟩ := h5 (k + 1) hk1
  have b := b (by omega)
  rw [Nat.add_sub_cancel] at b
  exact ⟨a, b.1, b.2 hr⟩
theorem map_lt {l : List Tp} (h : Map l) {k : Nat} (hk : k + 1 < l.length) : (nthT l k).1 < (nthT l (k + 1)).1 := by
  have := (h.2.2.2.2 (k + 1) hk).2 (by omega)
  rw [Nat.add_sub_cancel] at this
  exact this.1

/-- The terms of a ramp. -/
def num (p q : Tp) (t : Int) : Int := 2 * (q.1 - p.1) * p.2.1 * q.2.2.1 * t + (q.2.1 * p.2.2.1 - p.2.1 * q.2.2.1) * t * t
def den (p q : Tp) : Int := 2 * (q.1 - p.1) * p.2.2.1 * q.2.2.1
theorem prt_num {p q : Tp} {t : Int} (h : p.2.2.2 = true) : prt p q t = num p q t / den p q := prt_r h
/-- How two terms differ. -/
theorem num_sub (p q : Tp) (s t : Int) : num p q t - num p q s = (t - s) * (p.2.1 * q.2.2.1 * (2 * (q.1 - p.1) - (s + t)) + q.2.1 * p.2.2.1 * (s + t)) := by
  unfold num; grind
theorem num_zero (p q : Tp) : num p q 0 = 0 := by unfold num; simp
theorem den_pos {p q : Tp} (hp : okT p) (hq : okT q) (hf : p.1 < q.1 ∧ q.1 - p.1 ≤ 65536) : 1 ≤ den p q := (ramp_bd hp hq hf).2.2.2.2.1.1
/-- Between two places of a ramp. -/
theorem num_bd {p q : Tp} (hp : okT p) (hq : okT q) (hf : p.1 < q.1 ∧ q.1 - p.1 ≤ 65536) {s t : Int} (h0 : 0 ≤ s) (h1 : s ≤ t) (h2 : t ≤ q.1 - p.1) : 0 ≤ num p q t - num p q s ∧ num p q t - num p q s ≤ (t - s) * 268435456 * den p q := by
  obtain ⟨_, _, n1, n2, d1, d2⟩ := hp
  obtain ⟨_, _, n3, n4, d3, d4⟩ := hq
  rw [num_sub]
  have a1 := mul_le1 n1 n2 d3 d4
  have a2 := mul_le1 n3 n4 d1 d2
  have b1 := mul_le (x := p.2.1 * q.2.2.1) (y := 2 * (q.1 - p.1) - (s + t)) (by omega) a1.2 (by omega) (Int.le_refl _)
  have b2 := mul_le (x := q.2.1 * p.2.2.1) (y := s + t) (by omega) a2.2 (by omega) (Int.le_refl _)
  have b3 : 2 * (q.1 - p.1) ≤ den p q := by
    have e1 := mul_le1 (x := p.2.2.1) (y := q.2.2.1) d1 d2 d3 d4
    have e2 : den p q = 2 * (q.1 - p.1) * (p.2.2.1 * q.2.2.1) := by unfold den; rw [Int.mul_assoc]
    have e3 := Int.mul_le_mul_of_nonneg_left e1.1 (show 0 ≤ 2 * (q.1 - p.1) by omega)
    omega
  refine ⟨Int.mul_nonneg (by omega) (by omega), ?_⟩
  rw [Int.mul_assoc (t - s) 268435456 (den p q)]
  refine Int.mul_le_mul_of_nonneg_left ?_ (by omega)
  omega
theorem prt_bd {p q : Tp} (h : okP p q) {t : Int} (h0 : 0 ≤ t) (h1 : t ≤ 16777216) (h2 : p.2.2.2 = true → t ≤ q.1 - p.1) : 0 ≤ prt p q t ∧ prt p q t ≤ 17592186044416 := by
  cases hr : p.2.2.2
  · rw [prt_c hr]
    obtain ⟨⟨_, _, n1, n2, d1, d2⟩, _⟩ := h
    have mb := mul_le h0 h1 (show 0 ≤ p.2.1 by omega) n2
    exact ⟨Int.ediv_nonneg mb.1 (by omega), Int.le_trans (Int.ediv_le_self _ mb.1) (by omega)⟩
  · obtain ⟨hq, hf⟩ := h.2 hr
    have hb := num_bd h.1 hq hf (s := 0) (t := t) (by omega) h0 (h2 hr)
    rw [num_zero, Int.sub_zero, Int.sub_zero] at hb
    have hd := den_pos h.1 hq hf
    have ht := h2 hr
    rw [prt_num hr]
    refine ⟨Int.ediv_nonneg hb.1 (by omega), ?_⟩
    have e := Int.ediv_le_ediv (show 0 < den p q by omega) hb.2
    rw [Int.mul_ediv_cancel _ (by omega)] at e
    omega
/-- The whole of a part. -/
theorem prt_all {l : List Tp} (h : Map l) {k : Nat} (hk : k + 1 < l.length) : 0 ≤ prt (nthT l k) (nthT l (k + 1)) ((nthT l (k + 1)).1 - (nthT l k).1) ∧ prt (nthT l k) (nthT l (k + 1)) ((nthT l (k + 1)).1 - (nthT l k).1) ≤ 17592186044416 := by
  have a := (h.2.2.2.2 k (by omega)).1
  have b := (h.2.2.2.2 (k + 1) hk).1
  have c := map_lt h hk
  exact prt_bd (map_ok h (by omega)) (by omega) (by have := b.2.1; have := a.1; omega) (fun _ => Int.le_refl _)
theorem posT_bd {l : List Tp} (h : Map l) : ∀ k, k < l.length → 0 ≤ posT l k ∧ posT l k ≤ 17592186044416 * k := by
  intro k
  induction k with
  | zero => intro _; simp [posT]
  | succ k ih =>
    intro hk
    obtain ⟨i1, i2⟩ := ih (by omega)
    have := prt_all h hk
    simp only [posT]
    omega
end Go.Proofs.Ytafffmcmdhbghaa
