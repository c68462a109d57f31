/- What an inserted point changes (layer 9). -/
import Derived.Test.YtcgndcapdodhlaaTemMono
import Derived.Test.YtcgndcapdodhlaaTemIns
namespace Go.Proofs.Ytcgndcapdodhlaa

theorem insX_lo {l : List Tp} {t : Tp} {A R j : Nat} (hA : A ≤ l.length) (hj : j < A) : nthT (insX l t A R) j = nthT l j := by
  unfold nthT insX
  rw [List.getD_eq_getElem?_getD, List.getD_eq_getElem?_getD, List.append_assoc, List.getElem?_append_left (by simp; omega), List.getElem?_take_of_lt hj]
theorem insX_at {l : List Tp} {t : Tp} {A R : Nat} (hA : A ≤ l.length) : nthT (insX l t A R) A = t := by
  unfold nthT insX
  rw [List.getD_eq_getElem?_getD, List.append_assoc, List.getElem?_append_right (by simp; omega)]
  simp [Nat.min_eq_left hA]
theorem insX_hi {l : List Tp} {t : Tp} {A R : Nat} (hA : A ≤ l.length) (d : Nat) : nthT (insX l t A R) (A + 1 + d) = nthT l (R + d) := by
  unfold nthT insX
  rw [List.getD_eq_getElem?_getD, List.getD_eq_getElem?_getD, List.getElem?_append_right (by simp; omega)]
  simp only [List.length_append, List.length_take, Nat.min_eq_left hA, List.length_cons, List.length_nil]
  rw [show A + 1 + d - (A + (0 + 1)) = d by omega, List.getElem?_drop]
theorem insX_len {l : List Tp} {t : Tp} {A R : Nat} (hA : A ≤ l.length) : (insX l t A R).length = A + 1 + (l.length - R) := by
  unfold insX
  simp [Nat.min_eq_left hA]; omega
theorem posT_same {l x : List Tp} {k : Nat} (h : ∀ j, j ≤ k → nthT x j = nthT l j) : posT x k = posT l k := by
  induction k with
  | zero => rfl
  | succ k ih => simp only [posT]; rw [ih fun j hj => h j (by omega), h k (by omega), h (k + 1) (Nat.le_refl _)]
theorem insAt_le {l : List Tp} {t : Int} {A R : Nat} (h : InsAt l t A R) : A ≤ l.length ∧ A ≤ R ∧ R ≤ A + 1 := by
  rcases h with ⟨a, b, _⟩ | ⟨a, b, _⟩ <;> omega
/-- In a map, what stands before has an earlier tick. -/
theorem insAt_lt {l : List Tp} (hm : Map l) {t : Int} {A R : Nat} (h : InsAt l t A R) : (∀ j, j < A → (nthT l j).1 < t) ∧ (A < l.length → t ≤ (nthT l A).1) := by
  rcases h with ⟨a, b, c, _⟩ | ⟨a, b, c, d, e⟩
  · exact ⟨fun j hj => by have := tick_lt hm hj a; omega, fun _ => by omega⟩
  · exact ⟨d, fun h => Int.le_of_lt (e h)⟩
theorem prt_free {p q q' : Tp} {t : Int} (h : p.2.2.2 = false) : prt p q t = prt p q' t := by rw [prt_c h, prt_c h]

theorem ins_same {l : List Tp} (hm : Map l) {t : Tp} {A R : Nat} (hI : InsAt l t.1 A R) (hX : Map (insX l t A R)) {tick : Int} (h0 : 0 ≤ tick)
    (hu : tick ≤ t.1) (hr : 0 < A → (nthT l (A - 1)).2.2.2 = true → tick ≤ (nthT l (A - 1)).1) : smp (insX l t A R) tick = smp l tick := by
  obtain ⟨hA, hAR, hRA⟩ := insAt_le hI
  obtain ⟨hlt, hge⟩ := insAt_lt hm hI
  have hXl := insX_len (t := t) (R := R) hA
  by_cases hA0 : A = 0
  · subst hA0
    have e : (nthT (insX l t 0 R) 0).1 = 0 := hX.2.2.1
    rw [insX_at hA] at e
    obtain rfl : tick = 0 := by omega
    rw [smp_zero hm, smp_zero hX]
  obtain ⟨i, rfl⟩ : ∃ i, A = i + 1 := ⟨A - 1, by omega⟩
  have hil : i < l.length := by omega
  have hiX : i + 1 < (insX l t (i + 1) R).length := by rw [hXl]; omega
  simp only [Nat.add_sub_cancel] at hr
  have hr := hr (by omega)
  have eL : ∀ j, j ≤ i → nthT (insX l t (i + 1) R) j = nthT l j := fun j hj => insX_lo hA (by omega)
  have eA : nthT (insX l t (i + 1) R) (i + 1) = t := insX_at hA
  by_cases ht : tick < t.1
  · have ip := inP_of hm h0
    generalize ofT l tick l.length = j at ip
    have hji : j ≤ i := by
      rcases Nat.lt_or_ge i j with c | c
      · exfalso
        have h1 := hge (by have := ip.1; omega)
        have h2 := ip.2.1
        by_cases e : j = i + 1
        · subst e; omega
        · have := tick_lt hm (j := i + 1) (k := j) (by omega) ip.1; omega
      · exact c
    have iq : inP (insX l t (i + 1) R) j tick := ⟨by omega, by rw [eL j hji]; exact ip.2.1, fun _ => by
      by_cases e : j = i
      · subst e; rw [eA]; exact ht
      · rw [eL (j + 1) (by omega)]; exact ip.2.2 (by omega)⟩
    rw [smp_in hm ip, smp_in hX iq]
    unfold atT
    rw [posT_same fun q hq => eL q (by omega), eL j hji]
    by_cases e : j = i
    · subst e
      cases hc : (nthT l j).2.2.2
      · rw [prt_free hc]
      · have h1 := hr hc
        have h2 := ip.2.1
        rw [show tick - (nthT l j).1 = 0 by omega, prt_zero, prt_zero]
    · rw [eL (j + 1) (by omega)]
  · obtain rfl : tick = t.1 := by omega
    have hc : (nthT l i).2.2.2 = false := by
      cases hc : (nthT l i).2.2.2
      · rfl
      · have h1 := hr hc
        have h2 := hlt i (by omega)
        omega
    have iq : inP (insX l t (i + 1) R) (i + 1) t.1 := ⟨hiX, by rw [eA]; exact Int.le_refl _, fun h => by
      have := map_lt hX h
      rwa [eA] at this⟩
    rw [smp_in hX iq]
    unfold atT
    rw [eA, Int.sub_self, prt_zero, Int.add_zero]
    have e1 : posT (insX l t (i + 1) R) (i + 1) = posT l i + prt (nthT l i) t (t.1 - (nthT l i).1) := by
      simp only [posT]
      rw [posT_same fun q hq => eL q hq, eL i (Nat.le_refl _), eA]
    rw [e1]
    rcases hI with ⟨a, b, c, d⟩ | ⟨a, b, c, d, e⟩
    · have ip : inP l (i + 1) t.1 := ⟨a, by rw [c]; exact Int.le_refl _, fun h => by have := map_lt hm h; rwa [c] at this⟩
      rw [smp_in hm ip]
      unfold atT
      rw [c, Int.sub_self, prt_zero, Int.add_zero]
      simp only [posT]
      rw [c, prt_free hc]
    · have ip : inP l i t.1 := ⟨hil, by have := hlt i (by omega); omega, fun h => e h⟩
      rw [smp_in hm ip]
      unfold atT
      rw [prt_free hc]

/-- From a further point on: the same, but for what was before it. -/
theorem pos_shift {l : List Tp} {t : Tp} {A : Nat} (hA : A ≤ l.length) (d : Nat) : posT (insX l t A A) (A + 1 + d) - posT l (A + d) = posT (insX l t A A) (A + 1) - posT l A := by
  induction d with
  | zero => rfl
  | succ d ih =>
    rw [← Nat.add_assoc (A + 1) d 1, ← Nat.add_assoc A d 1]
    simp only [posT]
    rw [insX_hi hA d, show A + 1 + d + 1 = A + 1 + (d + 1) by omega, insX_hi hA (d + 1), show A + (d + 1) = A + d + 1 by omega]
    simp only [posT] at ih
    omega
theorem fl_two {x y d : Int} (hd : 0 < d) : x / d + y / d ≤ (x + y) / d ∧ (x + y) / d ≤ x / d + y / d + 1 := by
  have a := Int.emod_add_mul_ediv x d
  have b := Int.emod_add_mul_ediv y d
  have a1 := Int.emod_nonneg x (show d ≠ 0 by omega)
  have b1 := Int.emod_nonneg y (show d ≠ 0 by omega)
  have a2 := Int.emod_lt_of_pos x hd
  have b2 := Int.emod_lt_of_pos y hd
  constructor
  · refine (Int.le_ediv_iff_mul_le hd).2 ?_
    grind
  · have : (x + y) / d < x / d + y / d + 2 := by
      refine (Int.ediv_lt_iff_lt_mul hd).2 ?_
      grind
    omega
/-- A further point with the speed that there is. -/
theorem split_map {l : List Tp} (hm : Map l) {i : Nat} {at' : Int} (hi : i < l.length) (hlen : l.length < 64) (h1 : (nthT l i).1 < at') (h2 : at' ≤ 16777216) (h3 : i + 1 < l.length → at' < (nthT l (i + 1)).1) (hc : (nthT l i).2.2.2 = false) :
    Map (insX l (at', (nthT l i).2.1, (nthT l i).2.2.1, false) (i + 1) (i + 1)) := by
  have hA : i + 1 ≤ l.length := hi
  have hXl := insX_len (l := l) (t := (at', (nthT l i).2.1, (nthT l i).2.2.1, false)) (R := i + 1) hA
  have oi := (hm.2.2.2.2 i hi).1
  refine ⟨by omega, by omega, ?_, ?_, ?_⟩
  · rw [insX_lo hA (by omega)]; exact hm.2.2.1
  · by_cases e : l.length = i + 1
    · rw [hXl, e, show i + 1 + 1 + (i + 1 - (i + 1)) - 1 = i + 1 by omega, insX_at hA]
    · rw [hXl, show i + 1 + 1 + (l.length - (i + 1)) - 1 = i + 1 + 1 + (l.length - 1 - (i + 1)) by omega, insX_hi hA, show i + 1 + (l.length - 1 - (i + 1)) = l.length - 1 by omega]
      exact hm.2.2.2.1
  · intro j hj
    rcases Nat.lt_trichotomy j (i + 1) with c | c | c
    · rw [insX_lo hA c]
      obtain ⟨a, b⟩ := hm.2.2.2.2 j (by omega)
      refine ⟨a, fun h => ?_⟩
      rw [insX_lo hA (by omega)]
      exact b h
    · subst c
      rw [insX_at hA, show i + 1 - 1 = i by omega, insX_lo hA (by omega)]
      refine ⟨⟨by have := oi.1; show 0 ≤ at'; omega, h2, oi.2.2.1, oi.2.2.2.1, oi.2.2.2.2.1, oi.2.2.2.2.2⟩, fun _ => ⟨h1, fun h => ?_⟩⟩
      rw [hc] at h; cases h
    · obtain ⟨d, rfl⟩ : ∃ d, j = i + 1 + 1 + d := ⟨j - (i + 1 + 1), by omega⟩
      rw [insX_hi hA d]
      have hd : i + 1 + d < l.length := by omega
      obtain ⟨a, b⟩ := hm.2.2.2.2 (i + 1 + d) hd
      refine ⟨a, fun _ => ?_⟩
      cases d with
      | zero =>
        rw [show i + 1 + 1 + 0 - 1 = i + 1 by omega, insX_at hA]
        exact ⟨h3 (by omega), fun h => by cases h⟩
      | succ d =>
        rw [show i + 1 + 1 + (d + 1) - 1 = i + 1 + 1 + d by omega, insX_hi hA d]
        have := b (by omega)
        rwa [show i + 1 + (d + 1) - 1 = i + 1 + d by omega] at this
theorem split_smp {l : List Tp} (hm : Map l) {i : Nat} {at' : Int} (hi : i < l.length) (hlen : l.length < 64) (h1 : (nthT l i).1 < at') (h2 : at' ≤ 16777216) (h3 : i + 1 < l.length → at' < (nthT l (i + 1)).1) (hc : (nthT l i).2.2.2 = false) {tick : Int} (h0 : 0 ≤ tick) :
    smp (insX l (at', (nthT l i).2.1, (nthT l i).2.2.1, false) (i + 1) (i + 1)) tick ≤ smp l tick ∧ smp l tick ≤ smp (insX l (at', (nthT l i).2.1, (nthT l i).2.2.1, false) (i + 1) (i + 1)) tick + 1 := by
  have hA : i + 1 ≤ l.length := hi
  have hX := split_map hm hi hlen h1 h2 h3 hc
  have oi := (hm.2.2.2.2 i hi).1
  have hI : InsAt l at' (i + 1) (i + 1) := .inr ⟨rfl, hA, fun j hj => by
    rcases Nat.lt_trichotomy j (i + 1) with c | c | c
    · by_cases e : j = i
      · subst e; omega
      · have := tick_lt hm (j := j) (k := i) (by omega) hi; omega
    · subst c; have := h3 hj; omega
    · have := tick_lt hm (j := i + 1) (k := j) c hj; have := h3 (by omega); omega, fun j hj => by
    by_cases e : j = i
    · subst e; exact h1
    · have := tick_lt hm (j := j) (k := i) (by omega) hi; omega, h3⟩
  by_cases ht : tick < at'
  · rw [ins_same hm (t := (at', (nthT l i).2.1, (nthT l i).2.2.1, false)) hI hX h0 (Int.le_of_lt ht) (fun _ h => by rw [show i + 1 - 1 = i by omega, hc] at h; cases h)]
    exact ⟨Int.le_refl _, by omega⟩
  have hXl := insX_len (l := l) (t := (at', (nthT l i).2.1, (nthT l i).2.2.1, false)) (R := i + 1) hA
  have eL : ∀ j, j ≤ i → nthT (insX l (at', (nthT l i).2.1, (nthT l i).2.2.1, false) (i + 1) (i + 1)) j = nthT l j := fun j hj => insX_lo hA (by omega)
  have eA : nthT (insX l (at', (nthT l i).2.1, (nthT l i).2.2.1, false) (i + 1) (i + 1)) (i + 1) = (at', (nthT l i).2.1, (nthT l i).2.2.1, false) := insX_at hA
  have eH : ∀ d, nthT (insX l (at', (nthT l i).2.1, (nthT l i).2.2.1, false) (i + 1) (i + 1)) (i + 1 + 1 + d) = nthT l (i + 1 + d) := fun d => insX_hi hA d
  have hsh := fun d => pos_shift (t := (at', (nthT l i).2.1, (nthT l i).2.2.1, false)) hA d
  have p1 : posT (insX l (at', (nthT l i).2.1, (nthT l i).2.2.1, false) (i + 1) (i + 1)) (i + 1) = posT l i + (at' - (nthT l i).1) * (nthT l i).2.1 / (nthT l i).2.2.1 := by
    simp only [posT]
    rw [posT_same fun q hq => eL q hq, eL i (Nat.le_refl _), eA, prt_c hc]
  have p0 : posT l (i + 1) = posT l i + ((nthT l (i + 1)).1 - (nthT l i).1) * (nthT l i).2.1 / (nthT l i).2.2.1 := by
    simp only [posT]
    rw [prt_c hc]
  generalize insX l (at', (nthT l i).2.1, (nthT l i).2.2.1, false) (i + 1) (i + 1) = X at *
  by_cases hin : i + 1 < l.length → tick < (nthT l (i + 1)).1
  · have ip : inP l i tick := ⟨hi, by omega, hin⟩
    have iq : inP X (i + 1) tick := ⟨by omega, by rw [eA]; show at' ≤ tick; omega, fun h => by
      have := eH 0
      simp only [Nat.add_zero] at this
      rw [this]
      exact hin (by omega)⟩
    rw [smp_in hm ip, smp_in hX iq]
    unfold atT
    rw [eA, p1, prt_c hc, prt_c rfl]
    have := fl_two (x := (at' - (nthT l i).1) * (nthT l i).2.1) (y := (tick - at') * (nthT l i).2.1) (d := (nthT l i).2.2.1) (by have := oi.2.2.2.2.1; omega)
    rw [← Int.add_mul, show at' - (nthT l i).1 + (tick - at') = tick - (nthT l i).1 by omega] at this
    dsimp only
    omega
  · have hi1 : i + 1 < l.length ∧ (nthT l (i + 1)).1 ≤ tick := by
      by_cases h : i + 1 < l.length
      · exact ⟨h, by rcases Int.lt_or_le tick (nthT l (i + 1)).1 with c | c; exact absurd (fun _ => c) hin; exact c⟩
      · exact absurd (fun g => absurd g h) hin
    have ip := inP_of hm h0
    generalize ofT l tick l.length = j at ip
    have hj : i + 1 ≤ j := inP_le hm (j := i + 1) (s := (nthT l (i + 1)).1) ⟨hi1.1, Int.le_refl _, fun h => map_lt hm h⟩ ip hi1.2
    obtain ⟨d, rfl⟩ : ∃ d, j = i + 1 + d := ⟨j - (i + 1), by omega⟩
    have iq : inP X (i + 1 + 1 + d) tick := ⟨by have := ip.1; omega, by rw [eH]; exact ip.2.1, fun h => by
      have := eH (d + 1)
      rw [show i + 1 + 1 + (d + 1) = i + 1 + 1 + d + 1 by omega, show i + 1 + (d + 1) = i + 1 + d + 1 by omega] at this
      rw [this]
      exact ip.2.2 (by have := ip.1; omega)⟩
    rw [smp_in hm ip, smp_in hX iq]
    unfold atT
    have e2 := eH (d + 1)
    rw [show i + 1 + 1 + (d + 1) = i + 1 + 1 + d + 1 by omega, show i + 1 + (d + 1) = i + 1 + d + 1 by omega] at e2
    rw [eH d, e2]
    have e3 := hsh d
    have e4 : posT X (i + 1 + 1) = posT X (i + 1) + ((nthT l (i + 1)).1 - at') * (nthT l i).2.1 / (nthT l i).2.2.1 := by
      have e5 := eH 0
      simp only [Nat.add_zero] at e5
      simp only [posT]
      rw [eA, e5]; exact congrArg _ (prt_c rfl)
    have := fl_two (x := (at' - (nthT l i).1) * (nthT l i).2.1) (y := ((nthT l (i + 1)).1 - at') * (nthT l i).2.1) (d := (nthT l i).2.2.1) (by have := oi.2.2.2.2.1; omega)
    rw [← Int.add_mul, show at' - (nthT l i).1 + ((nthT l (i + 1)).1 - at') = (nthT l (i + 1)).1 - (nthT l i).1 by omega] at this
    omega
end Go.Proofs.Ytcgndcapdodhlaa
