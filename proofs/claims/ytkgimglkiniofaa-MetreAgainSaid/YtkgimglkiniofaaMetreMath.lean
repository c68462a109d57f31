/- What Tick and Place answer, as numbers (layer 10). -/
import Derived.Test.YtkgimglkiniofaaMetrePlace
namespace Go.Proofs.Ytkgimglkiniofaa

theorem bar_mono {l : List Mt} (h : Changes l) {j k : Nat} (hjk : j ≤ k) (hk : k < l.length) : (nthM l j).1 ≤ (nthM l k).1 := by
  induction k with
  | zero => obtain rfl : j = 0 := by omega
            exact Int.le_refl _
  | succ k ih =>
    by_cases e : j = k + 1
    · subst e; exact Int.le_refl _
    · have h1 := ih (by omega) (by omega)
      have h2 := (h.2.2.2 (k + 1) hk).2 (by omega)
      rw [Nat.add_sub_cancel] at h2
      omega
theorem end_le {l : List Mt} (h : Changes l) {j k : Nat} (hjk : j < k) (hk : k < l.length) : endOf l j ≤ (nthM l k).1 := by
  unfold endOf
  rw [if_pos (by omega)]
  exact bar_mono h (by omega) hk
theorem step_pos {l : List Mt} (h : Changes l) {k : Nat} (hk : k < l.length) : 1 ≤ (endOf l k - (nthM l k).1) * lenOf l k ∧ tickOf l (k + 1) = tickOf l k + (endOf l k - (nthM l k).1) * lenOf l k := by
  have e := endOf_bd h hk
  have ln := lenOf_bd (h.2.2.2 k hk).1
  have m := Int.mul_le_mul (show (1 : Int) ≤ endOf l k - (nthM l k).1 by omega) ln.1 (by omega) (by omega)
  exact ⟨by omega, rfl⟩
theorem tickOf_mono {l : List Mt} (h : Changes l) {j k : Nat} (hjk : j ≤ k) (hk : k ≤ l.length) : tickOf l j ≤ tickOf l k := by
  induction k with
  | zero => obtain rfl : j = 0 := by omega
            exact Int.le_refl _
  | succ k ih =>
    by_cases e : j = k + 1
    · subst e; exact Int.le_refl _
    · have h1 := ih (by omega) (by omega)
      have h2 := step_pos h (show k < l.length by omega)
      omega

/-- The stretch k holds the tick, and it has this place. -/
def Spot (l : List Mt) (tick : Int) (k : Nat) (B b o : Int) : Prop :=
  k < l.length ∧ tickOf l k ≤ tick ∧ tick < tickOf l (k + 1) ∧ B = (nthM l k).1 + (tick - tickOf l k) / (nthM l k).2.2 / (nthM l k).2.1 ∧ b = (tick - tickOf l k) / (nthM l k).2.2 % (nthM l k).2.1 ∧ o = (tick - tickOf l k) % (nthM l k).2.2
theorem split_len {t n u : Int} (hu : 0 < u) : t / (n * u) = t / u / n ∧ t % (n * u) / u = t / u % n := by
  have e1 : t / (n * u) = t / u / n := by rw [Int.mul_comm n u, Int.ediv_ediv_of_nonneg (by omega)]
  refine ⟨e1, ?_⟩
  have e2 := Int.mul_ediv_add_emod t (n * u)
  have e3 : t % (n * u) = t + (-(t / u / n * n)) * u := by
    rw [e1] at e2
    have : n * u * (t / u / n) = t / u / n * n * u := by rw [Int.mul_comm (n * u), Int.mul_assoc]
    rw [Int.neg_mul]
    omega
  rw [e3, Int.add_mul_ediv_right _ _ (by omega)]
  have e4 := Int.mul_ediv_add_emod (t / u) n
  have : n * (t / u / n) = t / u / n * n := Int.mul_comm _ _
  omega
theorem spot_of_at {l : List Mt} (h : Changes l) {tick : Int} {k : Nat} {B b o : Int} (hk : k < l.length) (h0 : 0 ≤ tick) (hp : ∀ j, j < k → tickOf l (j + 1) ≤ tick) (hs : SpotAt l tick k B b o) : Spot l tick k B b o := by
  obtain ⟨s1, s2, s3, s4⟩ := hs
  obtain ⟨_, _, m3, _, m5, _⟩ := (h.2.2.2 k hk).1
  have st := step_pos h hk
  have lo : tickOf l k ≤ tick := by
    cases k with
    | zero => exact h0
    | succ j => exact hp j (by omega)
  have sp := split_len (t := tick - tickOf l k) (n := (nthM l k).2.1) (u := (nthM l k).2.2) (by omega)
  have ln := lenOf_bd (h.2.2.2 k hk).1
  rw [Int.tdiv_eq_ediv_of_nonneg (by omega)] at s2
  rw [Int.tmod_eq_emod_of_nonneg (by omega)] at s3 s4
  have rn : 0 ≤ (tick - tickOf l k) % lenOf l k := Int.emod_nonneg _ (by omega)
  rw [Int.tdiv_eq_ediv_of_nonneg rn] at s3
  unfold lenOf at s2 s3
  rw [sp.1] at s2
  rw [sp.2] at s3
  exact ⟨hk, lo, by rw [st.2]; omega, s2, s3, s4⟩
theorem spot_k {l : List Mt} (h : Changes l) {t1 t2 : Int} {k1 k2 : Nat} (a1 : tickOf l k1 ≤ t1) (b2 : t2 < tickOf l (k2 + 1)) (h1 : k1 < l.length) (ht : t1 ≤ t2) : k1 ≤ k2 := by
  rcases Nat.lt_or_ge k2 k1 with h3 | h3
  · have := tickOf_mono h (show k2 + 1 ≤ k1 by omega) (by omega)
    omega
  · exact h3

/-- What a Place that succeeds says. -/
theorem place_ok {l : List Mt} {tick B b o : Int} (hr : PlaceRes l tick B b o 0) : Changes l ∧ 0 ≤ tick ∧ tick ≤ 16777216 ∧ ∃ k, Spot l tick k B b o := by
  rcases hr with ⟨_, _, _, _, h⟩ | ⟨_, _, _, _, _, h⟩ | ⟨hc, ⟨h1, h2⟩, hp⟩
  · omega
  · omega
  · refine ⟨hc, h1, h2, ?_⟩
    rcases hp with ⟨k, hk, hj, hs, _⟩ | ⟨_, _, _, _, h⟩
    · exact ⟨k, spot_of_at hc hk h1 hj hs⟩
    · omega
/-- Place where a stretch holds the tick. -/
theorem place_of {l : List Mt} {tick B b o r : Int} {k : Nat} (hc : Changes l) (h0 : 0 ≤ tick) (h1 : tick ≤ 16777216) (hk : k < l.length) (ha : tickOf l k ≤ tick) (hb : tick < tickOf l (k + 1)) (hr : PlaceRes l tick B b o r) : r = 0 ∧ Spot l tick k B b o := by
  rcases hr with ⟨h, _⟩ | ⟨_, h, _⟩ | ⟨_, _, hp⟩
  · exact absurd hc h
  · exact absurd ⟨h0, h1⟩ h
  · rcases hp with ⟨k', hk', hj, hs, hr⟩ | ⟨h, _⟩
    · have hS := spot_of_at hc hk' h0 hj hs
      have e1 := spot_k hc ha hS.2.2.1 hk (Int.le_refl _)
      have e2 := spot_k hc hS.2.1 hb hk' (Int.le_refl _)
      obtain rfl : k = k' := by omega
      exact ⟨hr, hS⟩
    · have := h k hk
      omega

/-- The bar lies in stretch k, and it has this beat and this rest. -/
def Bar (l : List Mt) (k : Nat) (bar beat rest : Int) : Prop := k < l.length ∧ (nthM l k).1 ≤ bar ∧ bar < endOf l k ∧ 0 ≤ beat ∧ beat < (nthM l k).2.1 ∧ 0 ≤ rest ∧ rest < (nthM l k).2.2
theorem tick_ok {l : List Mt} {bar beat rest t r : Int} (hr : TickRes l bar beat rest t r) : (r = 0 ∧ Changes l ∧ ∃ k, Bar l k bar beat rest ∧ t = tickAt l k bar beat rest ∧ t ≤ 16777216) ∨ (r ≠ 0 ∧ t = 0) := by
  rcases hr with ⟨_, h1, h2⟩ | ⟨hc, t0, r0, hT, ht, hr⟩
  · exact .inr ⟨by omega, h1⟩
  · by_cases hbig : 16777216 < t0
    · rw [if_pos hbig] at ht hr
      exact .inr ⟨by omega, ht⟩
    · rw [if_neg hbig] at ht hr
      subst ht hr
      rcases hT with ⟨k, hk, _, hlt, hf⟩ | ⟨_, h1, h2⟩
      · rcases hf with ⟨_, h1, h2⟩ | ⟨h1, ⟨p1, p2, p3, p4⟩, h2, h3⟩ | ⟨_, _, h1, h2⟩
        · exact .inr ⟨by omega, h1⟩
        · exact .inl ⟨h3, hc, k, ⟨hk, h1, hlt, p1, by omega, p3, by omega⟩, h2, by omega⟩
        · exact .inr ⟨by omega, h1⟩
      · exact .inr ⟨by omega, h1⟩
theorem bar_k {l : List Mt} (h : Changes l) {k1 k2 : Nat} {bar : Int} (a1 : (nthM l k1).1 ≤ bar) (a2 : bar < endOf l k1) (b1 : (nthM l k2).1 ≤ bar) (b2 : bar < endOf l k2) (h1 : k1 < l.length) (h2 : k2 < l.length) : k1 = k2 := by
  rcases Nat.lt_trichotomy k1 k2 with h3 | h3 | h3
  · have := end_le h h3 h2; omega
  · exact h3
  · have := end_le h h3 h1; omega
theorem tick_of {l : List Mt} {bar beat rest t r : Int} {k : Nat} (hc : Changes l) (hb : Bar l k bar beat rest) (hr : TickRes l bar beat rest t r) : (tickAt l k bar beat rest ≤ 16777216 ∧ r = 0 ∧ t = tickAt l k bar beat rest) ∨ (16777216 < tickAt l k bar beat rest ∧ r = 70 ∧ t = 0) := by
  obtain ⟨hk, c1, c2, c3, c4, c5, c6⟩ := hb
  rcases hr with ⟨h, _⟩ | ⟨_, t0, r0, hT, ht, hr⟩
  · exact absurd hc h
  · have key : t0 = tickAt l k bar beat rest ∧ r0 = 0 := by
      rcases hT with ⟨k', hk', hj, hlt, hf⟩ | ⟨h, _⟩
      · have hkk : k' = k := by
          rcases Nat.lt_trichotomy k' k with h3 | h3 | h3
          · have := end_le hc h3 hk; omega
          · exact h3
          · have := hj k h3; omega
        subst hkk
        rcases hf with ⟨h, _⟩ | ⟨_, _, h2, h3⟩ | ⟨_, hn, _⟩
        · omega
        · exact ⟨h2, h3⟩
        · exact absurd ⟨c3, by omega, c5, by omega⟩ hn
      · have := h k hk; omega
    obtain ⟨rfl, rfl⟩ := key
    by_cases hbig : 16777216 < tickAt l k bar beat rest
    · rw [if_pos hbig] at ht hr
      exact .inr ⟨hbig, hr, ht⟩
    · rw [if_neg hbig] at ht hr
      exact .inl ⟨by omega, hr, ht⟩

/-- Where the tick of a bar lies. -/
theorem tickAt_in {l : List Mt} (h : Changes l) {k : Nat} {bar beat rest : Int} (hb : Bar l k bar beat rest) : tickOf l k ≤ tickAt l k bar beat rest ∧ tickAt l k bar beat rest < tickOf l (k + 1) ∧
    (tickAt l k bar beat rest - tickOf l k) / (nthM l k).2.2 = (bar - (nthM l k).1) * (nthM l k).2.1 + beat ∧ (tickAt l k bar beat rest - tickOf l k) % (nthM l k).2.2 = rest ∧
    ((bar - (nthM l k).1) * (nthM l k).2.1 + beat) / (nthM l k).2.1 = bar - (nthM l k).1 ∧ ((bar - (nthM l k).1) * (nthM l k).2.1 + beat) % (nthM l k).2.1 = beat := by
  obtain ⟨hk, c1, c2, c3, c4, c5, c6⟩ := hb
  have st := step_pos h hk
  rw [st.2]
  unfold tickAt lenOf
  generalize (nthM l k).2.1 = n at *
  generalize (nthM l k).2.2 = u at *
  generalize (nthM l k).1 = B at *
  generalize tickOf l k = T at *
  have e0 : T + (bar - B) * (n * u) + beat * u + rest - T = rest + ((bar - B) * n + beat) * u := by
    rw [Int.add_mul, ← Int.mul_assoc]; omega
  have p1 : 0 ≤ (bar - B) * n := Int.mul_nonneg (by omega) (by omega)
  have p2 : 0 ≤ ((bar - B) * n + beat) * u := Int.mul_nonneg (by omega) (by omega)
  have p3 : (bar - B) * n + n ≤ (endOf l k - B) * n := by
    have := Int.mul_le_mul_of_nonneg_right (show bar - B + 1 ≤ endOf l k - B by omega) (show 0 ≤ n by omega)
    rw [Int.add_mul, Int.one_mul] at this
    exact this
  have p4 : ((bar - B) * n + beat) * u + u ≤ (endOf l k - B) * n * u := by
    have := Int.mul_le_mul_of_nonneg_right (show (bar - B) * n + beat + 1 ≤ (endOf l k - B) * n by omega) (show 0 ≤ u by omega)
    rw [Int.add_mul _ 1, Int.one_mul] at this
    exact this
  rw [e0]
  have p5 : (endOf l k - B) * (n * u) = (endOf l k - B) * n * u := (Int.mul_assoc _ _ _).symm
  have p6 : (bar - B) * (n * u) = (bar - B) * n * u := (Int.mul_assoc _ _ _).symm
  have p7 : ((bar - B) * n + beat) * u = (bar - B) * n * u + beat * u := Int.add_mul _ _ _
  refine ⟨by omega, by omega, ?_, ?_, ?_, ?_⟩
  · rw [Int.add_mul_ediv_right _ _ (by omega), Int.ediv_eq_zero_of_lt (by omega) (by omega), Int.zero_add]
  · rw [Int.add_mul_emod_self_right]; exact Int.emod_eq_of_lt (by omega) (by omega)
  · rw [Int.add_comm, Int.add_mul_ediv_right _ _ (by omega), Int.ediv_eq_zero_of_lt (by omega) (by omega), Int.zero_add]
  · rw [Int.add_comm, Int.add_mul_emod_self_right]; exact Int.emod_eq_of_lt (by omega) (by omega)
/-- The place of a tick is a bar of the stretch, and its tick is the tick. -/
theorem spot_bar {l : List Mt} (h : Changes l) {tick B b o : Int} {k : Nat} (hs : Spot l tick k B b o) : Bar l k B b o ∧ tickAt l k B b o = tick := by
  obtain ⟨hk, s1, s2, rfl, rfl, rfl⟩ := hs
  obtain ⟨_, _, m3, _, m5, _⟩ := (h.2.2.2 k hk).1
  have st := step_pos h hk
  rw [st.2] at s2
  unfold Bar tickAt
  unfold lenOf at *
  generalize (nthM l k).2.1 = n at *
  generalize (nthM l k).2.2 = u at *
  generalize (nthM l k).1 = B at *
  generalize tickOf l k = T at *
  generalize endOf l k = E at *
  obtain ⟨t, ht⟩ : ∃ t, t = tick - T := ⟨_, rfl⟩
  rw [← ht]
  have e1 := Int.mul_ediv_add_emod t u
  have e2 := Int.mul_ediv_add_emod (t / u) n
  have a1 := Int.emod_nonneg t (show u ≠ 0 by omega)
  have a2 := Int.emod_lt_of_pos t (show 0 < u by omega)
  have b1 := Int.emod_nonneg (t / u) (show n ≠ 0 by omega)
  have b2 := Int.emod_lt_of_pos (t / u) (show 0 < n by omega)
  have q0 : 0 ≤ t / u := Int.ediv_nonneg (by omega) (by omega)
  have q1 : 0 ≤ t / u / n := Int.ediv_nonneg q0 (by omega)
  have q2 : t / u / n < E - B := by
    rw [Int.ediv_ediv_of_nonneg (by omega)]
    refine Int.ediv_lt_of_lt_mul (Int.mul_pos (by omega) (by omega)) ?_
    rw [Int.mul_comm u n]
    omega
  refine ⟨⟨hk, by omega, by omega, b1, b2, a1, a2⟩, ?_⟩
  have e3 : (B + t / u / n - B) * (n * u) + t / u % n * u = t / u * u := by
    rw [show B + t / u / n - B = t / u / n by omega, ← Int.mul_assoc, ← Int.add_mul]
    congr 1
    rw [Int.mul_comm (t / u / n)]
    exact e2
  have e4 : t / u * u = u * (t / u) := Int.mul_comm _ _
  omega

/-- Of two ticks, the lesser has the lesser place. -/
theorem spot_lex {l : List Mt} (h : Changes l) {s t B b o U v w : Int} {k1 k2 : Nat} (h1 : Spot l s k1 B b o) (h2 : Spot l t k2 U v w) (hst : s < t) : B < U ∨ (B = U ∧ (b < v ∨ (b = v ∧ o < w))) := by
  have hk := spot_k h h1.2.1 h2.2.2.1 h1.1 (by omega)
  have f1 := (spot_bar h h1).1
  have f2 := (spot_bar h h2).1
  rcases Nat.lt_or_ge k1 k2 with h3 | h3
  · have := end_le h h3 h2.1
    left
    have := f1.2.2.1
    have := f2.2.1
    omega
  · obtain rfl : k1 = k2 := by omega
    obtain ⟨hk, s1, s2, e1, e2, e3⟩ := h1
    obtain ⟨_, t1, t2, g1, g2, g3⟩ := h2
    obtain ⟨_, _, m3, _, m5, _⟩ := (h.2.2.2 k1 hk).1
    generalize (nthM l k1).2.1 = n at *
    generalize (nthM l k1).2.2 = u at *
    generalize (nthM l k1).1 = R at *
    generalize tickOf l k1 = T at *
    obtain ⟨x, hx⟩ : ∃ x, x = s - T := ⟨_, rfl⟩
    obtain ⟨y, hy⟩ : ∃ y, y = t - T := ⟨_, rfl⟩
    rw [← hx] at e1 e2 e3
    rw [← hy] at g1 g2 g3
    have d1 := Int.ediv_le_ediv (show 0 < u by omega) (show x ≤ y by omega)
    have d2 := Int.ediv_le_ediv (show 0 < n by omega) d1
    have w1 := Int.mul_ediv_add_emod x u
    have w2 := Int.mul_ediv_add_emod y u
    have w3 := Int.mul_ediv_add_emod (x / u) n
    have w4 := Int.mul_ediv_add_emod (y / u) n
    by_cases c1 : x / u / n = y / u / n
    · right
      refine ⟨by omega, ?_⟩
      rw [c1] at w3
      by_cases c2 : x / u = y / u
      · right
        rw [c2] at w1
        exact ⟨by rw [e2, g2, c2], by omega⟩
      · left; omega
    · left; omega
/-- The next tick has the next place. -/
theorem spot_next {l : List Mt} (h : Changes l) {s B b o U v w : Int} {k1 k2 : Nat} (h1 : Spot l s k1 B b o) (h2 : Spot l (s + 1) k2 U v w) : (B = U ∧ b = v ∧ w = o + 1) ∨ (B = U ∧ v = b + 1 ∧ w = 0) ∨ (U = B + 1 ∧ v = 0 ∧ w = 0) := by
  have hk := spot_k h h1.2.1 h2.2.2.1 h1.1 (by omega)
  have f1 := spot_bar h h1
  have i1 := tickAt_in h f1.1
  rw [f1.2] at i1
  obtain ⟨hk1, s1, s2, e1, e2, e3⟩ := h1
  obtain ⟨hk2, t1, t2, g1, g2, g3⟩ := h2
  obtain ⟨_, _, m3, _, m5, _⟩ := (h.2.2.2 k1 hk1).1
  rcases Nat.lt_or_ge k1 k2 with h3 | h3
  · -- the next stretch
    have st := step_pos h hk1
    have hk3 : k2 = k1 + 1 := by
      rcases Nat.lt_or_ge (k1 + 1) k2 with h4 | h4
      · have a1 := step_pos h (show k1 + 1 < l.length by omega)
        have a2 := tickOf_mono h (show k1 + 1 + 1 ≤ k2 by omega) (by omega)
        omega
      · omega
    subst hk3
    obtain ⟨_, _, n3, _, n5, _⟩ := (h.2.2.2 (k1 + 1) hk2).1
    have hT : s + 1 = tickOf l (k1 + 1) := by omega
    rw [hT, Int.sub_self, Int.zero_ediv, Int.zero_ediv, Int.add_zero] at g1
    rw [hT, Int.sub_self, Int.zero_ediv, Int.zero_emod] at g2
    rw [hT, Int.sub_self, Int.zero_emod] at g3
    have he : endOf l k1 = (nthM l (k1 + 1)).1 := by unfold endOf; rw [if_pos hk2]
    right; right
    refine ⟨?_, g2, g3⟩
    have f2 := f1.1
    obtain ⟨_, c1, c2, c3, c4, c5, c6⟩ := f2
    rw [g1, ← he]
    -- the bar is the last one of its stretch
    rcases Int.lt_or_le (B + 1) (endOf l k1) with h5 | h5
    · exfalso
      have hb : Bar l k1 (B + 1) 0 0 := ⟨hk1, by omega, h5, by omega, by omega, by omega, by omega⟩
      have j := tickAt_in h hb
      have ha := f1.2
      unfold tickAt at j ha
      have hl : (B + 1 - (nthM l k1).1) * lenOf l k1 = (B - (nthM l k1).1) * lenOf l k1 + lenOf l k1 := by
        rw [show B + 1 - (nthM l k1).1 = (B - (nthM l k1).1) + 1 by omega, Int.add_mul, Int.one_mul]
      have hr : b * (nthM l k1).2.2 + o + 1 ≤ lenOf l k1 := by
        unfold lenOf
        have := Int.mul_le_mul_of_nonneg_right (show b + 1 ≤ (nthM l k1).2.1 by omega) (show 0 ≤ (nthM l k1).2.2 by omega)
        rw [Int.add_mul, Int.one_mul] at this
        omega
      omega
    · omega
  · obtain rfl : k1 = k2 := by omega
    generalize (nthM l k1).2.1 = n at *
    generalize (nthM l k1).2.2 = u at *
    generalize (nthM l k1).1 = R at *
    generalize tickOf l k1 = T at *
    rw [show s + 1 - T = (s - T) + 1 by omega] at g1 g2 g3
    obtain ⟨x, hx⟩ : ∃ x, x = s - T := ⟨_, rfl⟩
    rw [← hx] at e1 e2 e3 g1 g2 g3
    have w1 := Int.mul_ediv_add_emod x u
    have w3 := Int.mul_ediv_add_emod (x / u) n
    have r0 := Int.emod_nonneg x (show u ≠ 0 by omega)
    have r1 := Int.emod_lt_of_pos x (show 0 < u by omega)
    have b0 := Int.emod_nonneg (x / u) (show n ≠ 0 by omega)
    have b1 := Int.emod_lt_of_pos (x / u) (show 0 < n by omega)
    by_cases c1 : x % u + 1 < u
    · have q : (x + 1) / u = x / u ∧ (x + 1) % u = x % u + 1 := by
        have e : x + 1 = (x % u + 1) + (x / u) * u := by rw [Int.mul_comm]; omega
        constructor
        · rw [e, Int.add_mul_ediv_right _ _ (by omega), Int.ediv_eq_zero_of_lt (by omega) (by omega), Int.zero_add]
        · conv => lhs; rw [e]
          rw [Int.add_mul_emod_self_right]
          exact Int.emod_eq_of_lt (by omega) (by omega)
      left
      rw [q.1] at g1 g2
      rw [q.2] at g3
      exact ⟨by omega, by omega, by omega⟩
    · have q : (x + 1) / u = x / u + 1 ∧ (x + 1) % u = 0 := by
        have e : x + 1 = (x / u + 1) * u := by rw [Int.add_mul, Int.one_mul, Int.mul_comm]; omega
        constructor
        · conv => lhs; rw [e]
          exact Int.mul_ediv_cancel _ (by omega)
        · conv => lhs; rw [e]
          exact Int.mul_emod_left _ _
      rw [q.1] at g1 g2
      rw [q.2] at g3
      right
      generalize x / u = X at *
      by_cases c2 : X % n + 1 < n
      · left
        have e : X + 1 = (X % n + 1) + (X / n) * n := by rw [Int.mul_comm (X / n)]; omega
        have q1 : (X + 1) / n = X / n := by
          conv => lhs; rw [e]
          rw [Int.add_mul_ediv_right _ _ (by omega), Int.ediv_eq_zero_of_lt (by omega) (by omega), Int.zero_add]
        have q2 : (X + 1) % n = X % n + 1 := by
          conv => lhs; rw [e]
          rw [Int.add_mul_emod_self_right]
          exact Int.emod_eq_of_lt (by omega) (by omega)
        rw [q1] at g1
        rw [q2] at g2
        exact ⟨by omega, by omega, g3⟩
      · right
        have e : X + 1 = (X / n + 1) * n := by rw [Int.add_mul, Int.one_mul, Int.mul_comm (X / n)]; omega
        have q1 : (X + 1) / n = X / n + 1 := by
          conv => lhs; rw [e]
          exact Int.mul_ediv_cancel _ (by omega)
        have q2 : (X + 1) % n = 0 := by
          conv => lhs; rw [e]
          exact Int.mul_emod_left _ _
        rw [q1] at g1
        rw [q2] at g2
        exact ⟨by omega, by omega, g3⟩
end Go.Proofs.Ytkgimglkiniofaa
