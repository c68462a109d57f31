/- The bar that holds a tick, as the reference finds it, and the bars of a part as one list (layer 10). -/
import Derived.Test.YtkgimglkiniofaaMetreRTick
namespace Go.Proofs.Ytkgimglkiniofaa

def atK (l : List Mt) (tick : Int) : Nat → Int
  | 0 => 0
  | k + 1 => if tickOf l k ≤ tick then (nthM l k).1 + (tick - tickOf l k) / lenOf l k else atK l tick k
theorem atK_bd {l : List Mt} (h : Changes l) {tick : Int} (h0 : 0 ≤ tick) : ∀ k, k ≤ l.length → 0 ≤ atK l tick k ∧ atK l tick k ≤ 1048577 + tick := by
  intro k
  induction k with
  | zero => intro _; simp only [atK]; omega
  | succ k ih =>
    intro hk
    have i := ih (by omega)
    have e := endOf_bd h (show k < l.length by omega)
    have m := (h.2.2.2 k (by omega)).1
    have ln := lenOf_bd m
    have t0 := (tickOf_bd h k (by omega)).1
    obtain ⟨m1, m2, _⟩ := m
    simp only [atK]
    split
    · have a1 := Int.ediv_nonneg (show 0 ≤ tick - tickOf l k by omega) (show 0 ≤ lenOf l k by omega)
      have a2 := Int.ediv_le_self (a := tick - tickOf l k) (lenOf l k) (by omega)
      omega
    · exact i
theorem at_spot {l : List Mt} (h : Changes l) {tick B b o : Int} {k : Nat} (hs : Spot l tick k B b o) : atK l tick l.length = B := by
  obtain ⟨hk, s1, s2, s3, _, _⟩ := hs
  obtain ⟨_, _, m3, _, m5, _⟩ := (h.2.2.2 k hk).1
  have step : ∀ j, k + 1 ≤ j → j ≤ l.length → atK l tick j = B := by
    intro j
    induction j with
    | zero => intro h1; omega
    | succ j ih =>
      intro h1 h2
      by_cases e : j = k
      · subst e
        have sp := split_len (t := tick - tickOf l j) (n := (nthM l j).2.1) (u := (nthM l j).2.2) (by omega)
        rw [atK, if_pos s1, s3]
        unfold lenOf
        rw [sp.1]
      · have := tickOf_mono h (show k + 1 ≤ j by omega) (by omega)
        rw [atK, if_neg (by omega), ih (by omega) (by omega)]
  exact step l.length (by omega) (Nat.le_refl _)
theorem at_past {l : List Mt} (h : Changes l) {tick : Int} (hp : tickOf l l.length ≤ tick) : 1048577 ≤ atK l tick l.length := by
  obtain ⟨n, hn⟩ : ∃ n, l.length = n + 1 := ⟨l.length - 1, by have := h.1; omega⟩
  have hk : n < l.length := by omega
  have st := step_pos h hk
  have m := (h.2.2.2 n hk).1
  have ln := lenOf_bd m
  rw [hn, st.2] at hp
  have en : endOf l n = 1048577 := by unfold endOf; rw [if_neg (by omega)]
  rw [hn, atK, if_pos (by omega)]
  have := (Int.le_ediv_iff_mul_le (show 0 < lenOf l n by omega)).2 (show (endOf l n - (nthM l n).1) * lenOf l n ≤ tick - tickOf l n by omega)
  omega
/-- A tick lies in a stretch, or behind all. -/
theorem tick_in_or {l : List Mt} {tick : Int} (h0 : 0 ≤ tick) : (∃ k B b o, Spot l tick k B b o) ∨ tickOf l l.length ≤ tick := by
  have key : ∀ m, m ≤ l.length → (∃ k, k < l.length ∧ tickOf l k ≤ tick ∧ tick < tickOf l (k + 1)) ∨ tickOf l m ≤ tick := by
    intro m
    induction m with
    | zero => intro _; exact .inr h0
    | succ m ih =>
      intro hm
      rcases ih (by omega) with h1 | h1
      · exact .inl h1
      · by_cases e : tickOf l (m + 1) ≤ tick
        · exact .inr e
        · exact .inl ⟨m, by omega, h1, by omega⟩
  rcases key l.length (Nat.le_refl _) with ⟨k, h1, h2, h3⟩ | h1
  · exact .inl ⟨k, _, _, _, h1, h2, h3, rfl, rfl, rfl⟩
  · exact .inr h1

/-- The tick of a bar. -/
def bg (l : List Mt) (b : Int) : Int := beginK l b l.length
theorem bg_k {l : List Mt} (h : Changes l) {b : Int} {k : Nat} (hk : k < l.length) (c1 : (nthM l k).1 ≤ b) (c2 : b < endOf l k) : bg l b = tickOf l k + (b - (nthM l k).1) * lenOf l k := by
  unfold bg
  rw [begin_is h hk c1 c2]
  unfold tickAt
  omega
theorem bar_in {l : List Mt} (h : Changes l) {b : Int} (h0 : 0 ≤ b) (h1 : b ≤ 1048576) : ∃ k, k < l.length ∧ (nthM l k).1 ≤ b ∧ b < endOf l k :=
  ⟨_, ofK_end h h0 h1⟩
theorem bg_lt {l : List Mt} (h : Changes l) {a b : Int} (h0 : 0 ≤ a) (hab : a < b) (h1 : b ≤ 1048576) : bg l a < bg l b := by
  obtain ⟨n, hn⟩ := Int.eq_ofNat_of_zero_le (show 0 ≤ b - a - 1 by omega)
  have key : ∀ n : Nat, a + 1 + n ≤ 1048576 → bg l a < bg l (a + 1 + n) := by
    intro n
    induction n with
    | zero =>
      intro h2
      obtain ⟨k, hk, c1, c2⟩ := bar_in h h0 (by omega)
      obtain ⟨k2, hk2, d1, d2⟩ := bar_in h (b := a + 1) (by omega) (by omega)
      have e := next_bar h hk c1 c2 hk2 d1 d2
      have ln := lenOf_bd (h.2.2.2 k hk).1
      unfold bg
      rw [show a + 1 + ((0 : Nat) : Int) = a + 1 by omega, begin_is h hk c1 c2, begin_is h hk2 d1 d2, e]
      omega
    | succ n ih =>
      intro h2
      have i := ih (by omega)
      obtain ⟨k, hk, c1, c2⟩ := bar_in h (b := a + 1 + n) (by omega) (by omega)
      obtain ⟨k2, hk2, d1, d2⟩ := bar_in h (b := a + 1 + n + 1) (by omega) (by omega)
      have e := next_bar h hk c1 c2 hk2 d1 d2
      have ln := lenOf_bd (h.2.2.2 k hk).1
      unfold bg at *
      rw [show a + 1 + ((n + 1 : Nat) : Int) = a + 1 + n + 1 by omega, begin_is h hk2 d1 d2, e]
      rw [begin_is h hk c1 c2] at i
      omega
  have := key n (by omega)
  rwa [show a + 1 + (n : Int) = b by omega] at this
theorem bg_spot {l : List Mt} (h : Changes l) {tick B b o : Int} {k : Nat} (hs : Spot l tick k B b o) : bg l B + b * (nthM l k).2.2 + o = tick ∧ 0 ≤ b ∧ 0 ≤ o ∧ o < (nthM l k).2.2 ∧ 0 ≤ B ∧ B ≤ 1048576 := by
  obtain ⟨⟨hk, c1, c2, c3, c4, c5, c6⟩, e⟩ := spot_bar h hs
  have en := endOf_bd h hk
  have m0 := (h.2.2.2 k hk).1.1
  rw [bg_k h hk c1 c2]
  unfold tickAt at e
  exact ⟨e, c3, c5, c6, by omega, by omega⟩
theorem bg_past {l : List Mt} (h : Changes l) {b : Int} (h0 : 0 ≤ b) (h1 : b ≤ 1048576) : bg l b < tickOf l l.length := by
  obtain ⟨k, hk, c1, c2⟩ := bar_in h h0 h1
  obtain ⟨_, _, m3, _, m5, _⟩ := (h.2.2.2 k hk).1
  have t := (tickAt_in h (k := k) (bar := b) (beat := 0) (rest := 0) ⟨hk, c1, c2, by omega, by omega, by omega, by omega⟩).2.1
  have := tickOf_mono h (show k + 1 ≤ l.length by omega) (Nat.le_refl _)
  unfold bg
  rw [begin_is h hk c1 c2]
  omega

/-- The bars before bar n, those of the part. -/
def outK (l : List Mt) (fr to : Int) (n : Nat) : List Int := ((List.range (min n 1048577)).map fun (i : Nat) => bg l i).filter (inPart fr to)
theorem outK_succ (l : List Mt) (fr to : Int) {n : Nat} (hn : n ≤ 1048576) : outK l fr to (n + 1) = outK l fr to n ++ (if inPart fr to (bg l n) then [bg l n] else []) := by
  unfold outK
  rw [Nat.min_eq_left (by omega), Nat.min_eq_left (by omega), List.range_succ, List.map_append, List.filter_append]
  congr 1
  simp only [List.map_cons, List.map_nil, List.filter_cons, List.filter_nil]
theorem outK_big (l : List Mt) (fr to : Int) {n : Nat} (hn : 1048577 ≤ n) : outK l fr to n = outK l fr to 1048577 := by
  unfold outK
  rw [Nat.min_eq_right hn, Nat.min_self]
theorem outK_from {l : List Mt} {fr to : Int} {j n : Nat} (h : ∀ i : Nat, j ≤ i → i < n → i ≤ 1048576 → inPart fr to (bg l i) = false) (hjn : j ≤ n) : outK l fr to n = outK l fr to j := by
  induction n with
  | zero => obtain rfl : j = 0 := by omega
            rfl
  | succ n ih =>
    by_cases e : j = n + 1
    · rw [e]
    · have i := ih (fun i h1 h2 h3 => h i h1 (by omega) h3) (by omega)
      by_cases hn : n ≤ 1048576
      · rw [outK_succ l fr to hn, h n (by omega) (by omega) hn, i]
        simp
      · rw [outK_big l fr to (by omega), ← outK_big l fr to (show 1048577 ≤ n by omega), i]
theorem outK_len {l : List Mt} {fr to : Int} {j n : Nat} (h : j ≤ n) : (outK l fr to j).length ≤ (outK l fr to n).length := by
  induction n with
  | zero => obtain rfl : j = 0 := by omega
            exact Nat.le_refl _
  | succ n ih =>
    by_cases e : j = n + 1
    · rw [e]; exact Nat.le_refl _
    · have i := ih (by omega)
      by_cases hn : n ≤ 1048576
      · rw [outK_succ l fr to hn, List.length_append]; omega
      · rw [outK_big l fr to (show 1048577 ≤ n + 1 by omega), ← outK_big l fr to (show 1048577 ≤ n by omega)]; exact i
theorem outK_at {l : List Mt} (h : Changes l) {fr to : Int} (h0 : 0 ≤ fr) : outK l fr to (atK l fr l.length).toNat = [] := by
  have bd := atK_bd h h0 l.length (Nat.le_refl _)
  have e : outK l fr to 0 = [] := rfl
  rw [outK_from (j := 0) (n := (atK l fr l.length).toNat) _ (by omega), e]
  intro i _ h2 h3
  have : bg l i < fr := by
    rcases tick_in_or h0 with ⟨k, B, b, o, hs⟩ | hp
    · have e1 := at_spot h hs
      obtain ⟨s1, s2, s3, s4, s5, s6⟩ := bg_spot h hs
      have m5 := (h.2.2.2 k hs.1).1.2.2.2.2.1
      have := Int.mul_nonneg s2 (show 0 ≤ (nthM l k).2.2 by omega)
      have := bg_lt h (a := i) (b := B) (by omega) (by omega) s6
      omega
    · have := bg_past h (b := i) (by omega) (by omega)
      omega
  unfold inPart
  exact decide_eq_false (by omega)
theorem outK_end {l : List Mt} (h : Changes l) {fr to : Int} {n : Nat} (hn : 1048577 ≤ n ∨ to ≤ bg l n) : outK l fr to 1048577 = outK l fr to n := by
  by_cases hb : 1048577 ≤ n
  · exact (outK_big l fr to hb).symm
  · refine outK_from (fun i h1 _ h3 => ?_) (by omega)
    unfold inPart
    refine decide_eq_false ?_
    rcases hn with hn | hn
    · omega
    · by_cases e : i = n
      · subst e; omega
      · have := bg_lt h (a := n) (b := i) (by omega) (by omega) (by omega)
        omega
/-- Where stretch m begins, also behind the last. -/
def startN (l : List Mt) (m : Nat) : Int := if m < l.length then (nthM l m).1 else 1048577
theorem allF_outK {l : List Mt} (h : Changes l) (fr to : Int) : allF l fr to (List.range l.length) = outK l fr to 1048577 := by
  have key : ∀ m, m ≤ l.length → allF l fr to (List.range m) = ((List.range (startN l m).toNat).map fun (i : Nat) => bg l i).filter (inPart fr to) := by
    intro m
    induction m with
    | zero =>
      intro _
      have e : startN l 0 = 0 := by unfold startN; rw [if_pos (by have := h.1; omega)]; exact h.2.2.1
      rw [e]; rfl
    | succ m ih =>
      intro hm
      have hk : m < l.length := by omega
      have e1 : startN l (m + 1) = endOf l m := rfl
      have e2 : startN l m = (nthM l m).1 := by unfold startN; rw [if_pos hk]
      have en := endOf_bd h hk
      have m0 := (h.2.2.2 m hk).1.1
      have e3 : (startN l (m + 1)).toNat = (startN l m).toNat + cntOf l m := by unfold cntOf; rw [e1, e2]; omega
      have e4 : allF l fr to (List.range (m + 1)) = allF l fr to (List.range m) ++ partL l fr to m (cntOf l m) := by
        unfold allF; rw [List.range_succ]; simp
      rw [e4, ih (by omega), e3, List.range_add, List.map_append, List.filter_append]
      congr 1
      unfold partL
      congr 1
      rw [List.map_map]
      refine List.map_congr_left fun i hi => ?_
      have hi2 : i < cntOf l m := List.mem_range.1 hi
      unfold cntOf at hi2
      show tickOf l m + (i : Int) * lenOf l m = bg l (((startN l m).toNat + i : Nat) : Int)
      rw [bg_k h (k := m) hk (by rw [e2]; omega) (by rw [e2]; omega)]
      rw [show (((startN l m).toNat + i : Nat) : Int) - (nthM l m).1 = (i : Int) by rw [e2]; omega]
  have e : startN l l.length = 1048577 := by unfold startN; rw [if_neg (by omega)]
  rw [key l.length (Nat.le_refl _), e]
  rfl
end Go.Proofs.Ytkgimglkiniofaa
