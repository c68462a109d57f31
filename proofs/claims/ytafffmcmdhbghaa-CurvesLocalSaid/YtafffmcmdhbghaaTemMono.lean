/- A later tick has no earlier sample (layer 9). -/
import Derived.Test.YtafffmcmdhbghaaTemSampF
namespace Go.Proofs.Ytafffmcmdhbghaa

/-- A tick lies in a part. -/
def inP (l : List Tp) (k : Nat) (t : Int) : Prop := k < l.length ∧ (nthT l k).1 ≤ t ∧ (k + 1 < l.length → t < (nthT l (k + 1)).1)
theorem inP_of {l : List Tp} (h : Map l) {t : Int} (h0 : 0 ≤ t) : inP l (ofT l t l.length) t := by
  have key : ∀ n, 1 ≤ n → n ≤ l.length → ofT l t n < n ∧ (nthT l (ofT l t n)).1 ≤ t ∧ ∀ j, ofT l t n < j → j < n → t < (nthT l j).1 := by
    intro n
    induction n with
    | zero => intro h; omega
    | succ n ih =>
      intro _ hn
      unfold ofT
      by_cases c : (nthT l n).1 ≤ t
      · rw [if_pos c]; exact ⟨by omega, c, fun j a b => by omega⟩
      · rw [if_neg c]
        have n1 : 1 ≤ n := by
          rcases Nat.eq_zero_or_pos n with e | e
          · subst e; rw [h.2.2.1] at c; omega
          · exact e
        obtain ⟨a1, a2, a3⟩ := ih n1 (by omega)
        refine ⟨by omega, a2, fun j a b => ?_⟩
        by_cases e : j = n
        · subst e; omega
        · exact a3 j a (by omega)
  obtain ⟨a1, a2, a3⟩ := key l.length h.1 (Nat.le_refl _)
  exact ⟨a1, a2, fun h1 => a3 _ (by omega) h1⟩
theorem smp_in {l : List Tp} (h : Map l) {k : Nat} {t : Int} (hi : inP l k t) : smp l t = atT l t k := by
  unfold smp
  rw [ofT_is hi.2.1 l.length hi.1 fun j a b => ?_]
  have h1 := hi.2.2 (by omega)
  by_cases e : j = k + 1
  · rw [e]; exact h1
  · have := tick_lt h (j := k + 1) (k := j) (by omega) b; omega
theorem inP_le {l : List Tp} (h : Map l) {j k : Nat} {s t : Int} (h1 : inP l j s) (h2 : inP l k t) (hst : s ≤ t) : j ≤ k := by
  rcases Nat.lt_or_ge k j with c | c
  · exfalso
    have a := h2.2.2 (by have := h1.1; omega)
    have b := h1.2.1
    by_cases e : j = k + 1
    · rw [e] at b; omega
    · have := tick_lt h (j := k + 1) (k := j) (by omega) h1.1; omega
  · exact c
theorem ramp_next {l : List Tp} (h : Map l) {k : Nat} (hk : k < l.length) (hr : (nthT l k).2.2.2 = true) : k + 1 < l.length := by
  rcases Nat.lt_or_ge (k + 1) l.length with c | c
  · exact c
  · have := h.2.2.2.1
    rw [show l.length - 1 = k by omega, hr] at this; cases this
/-- Within a part. -/
theorem prt_mono {p q : Tp} (h : okP p q) {s t : Int} (h0 : 0 ≤ s) (h1 : s ≤ t) (h2 : p.2.2.2 = true → t ≤ q.1 - p.1) : prt p q s ≤ prt p q t := by
  cases hr : p.2.2.2
  · rw [prt_c hr, prt_c hr]
    obtain ⟨⟨_, _, n1, n2, d1, d2⟩, _⟩ := h
    exact Int.ediv_le_ediv (by omega) (Int.mul_le_mul_of_nonneg_right h1 (by omega))
  · obtain ⟨hq, hf⟩ := h.2 hr
    have hb := num_bd h.1 hq hf h0 h1 (h2 hr)
    have hd := den_pos h.1 hq hf
    rw [prt_num hr, prt_num hr]
    exact Int.ediv_le_ediv (by omega) (by omega)
theorem prt_zero (p q : Tp) : prt p q 0 = 0 := by
  cases hr : p.2.2.2
  · rw [prt_c hr]; simp
  · rw [prt_num hr, num_zero]; simp
theorem posT_mono {l : List Tp} (h : Map l) {j k : Nat} (hjk : j ≤ k) (hk : k < l.length) : posT l j ≤ posT l k := by
  induction k with
  | zero => obtain rfl : j = 0 := by omega
            exact Int.le_refl _
  | succ k ih =>
    by_cases e : j = k + 1
    · subst e; exact Int.le_refl _
    · have a := ih (by omega) (by omega)
      have b := prt_all h hk
      simp only [posT]
      omega
theorem tick_bd {l : List Tp} (h : Map l) {k : Nat} (hk : k < l.length) : 0 ≤ (nthT l k).1 ∧ (nthT l k).1 ≤ 16777216 := ⟨(h.2.2.2.2 k hk).1.1, (h.2.2.2.2 k hk).1.2.1⟩
theorem at_bd {l : List Tp} (h : Map l) {k : Nat} {t : Int} (hi : inP l k t) : posT l k ≤ atT l t k ∧ (k + 1 < l.length → atT l t k ≤ posT l (k + 1)) := by
  have hok := map_ok h hi.1
  have h1 := hi.2.1
  have hz := prt_zero (nthT l k) (nthT l (k + 1))
  unfold atT
  refine ⟨?_, fun hk => ?_⟩
  · have := prt_mono hok (s := 0) (t := t - (nthT l k).1) (Int.le_refl _) (by omega) (fun hr => by have := hi.2.2 (ramp_next h hi.1 hr); omega)
    omega
  · have := hi.2.2 hk
    have := prt_mono hok (s := t - (nthT l k).1) (t := (nthT l (k + 1)).1 - (nthT l k).1) (by omega) (by omega) (fun _ => Int.le_refl _)
    simp only [posT]
    omega
theorem smp_mono {l : List Tp} (h : Map l) {s t : Int} (h0 : 0 ≤ s) (hst : s ≤ t) : smp l s ≤ smp l t := by
  have i1 := inP_of h h0
  have i2 := inP_of h (show 0 ≤ t by omega)
  rw [smp_in h i1, smp_in h i2]
  have hle := inP_le h i1 i2 hst
  generalize ofT l s l.length = j at *
  generalize ofT l t l.length = k at *
  by_cases e : j = k
  · subst e
    have := prt_mono (map_ok h i1.1) (s := s - (nthT l j).1) (t := t - (nthT l j).1) (by have := i1.2.1; omega) (by omega) (fun hr => by have := i2.2.2 (ramp_next h i2.1 hr); omega)
    unfold atT
    omega
  · have a := (at_bd h i1).2 (by have := i2.1; omega)
    have b := posT_mono h (j := j + 1) (k := k) (by omega) i2.1
    have c := (at_bd h i2).1
    omega
theorem smp_zero {l : List Tp} (h : Map l) : smp l 0 = 0 := by
  have h1 : inP l 0 0 := ⟨h.1, by rw [h.2.2.1]; exact Int.le_refl _, fun hk => by have := map_lt h hk; rw [h.2.2.1] at this; exact this⟩
  rw [smp_in h h1]
  unfold atT
  rw [h.2.2.1, Int.sub_zero, prt_zero]
  rfl
/-- The last tick that begins at a sample or before. -/
def TickIs (l : List Tp) (pos t : Int) : Prop := 0 ≤ t ∧ t ≤ 16777216 ∧ smp l t ≤ pos ∧ (t < 16777216 → pos < smp l (t + 1))
theorem tickIs_one {l : List Tp} (h : Map l) {pos s t : Int} (h1 : TickIs l pos s) (h2 : TickIs l pos t) : s = t := by
  obtain ⟨a1, a2, a3, a4⟩ := h1
  obtain ⟨b1, b2, b3, b4⟩ := h2
  rcases Int.lt_trichotomy s t with c | c | c
  · have := a4 (by omega)
    have := smp_mono h (s := s + 1) (t := t) (by omega) (by omega)
    omega
  · exact c
  · have := b4 (by omega)
    have := smp_mono h (s := t + 1) (t := s) (by omega) (by omega)
    omega
end Go.Proofs.Ytafffmcmdhbghaa
