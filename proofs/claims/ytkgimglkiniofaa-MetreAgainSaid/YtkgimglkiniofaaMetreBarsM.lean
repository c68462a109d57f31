/- The bars of a part: which they are, where they lie, and two parts together (layer 10). -/
import Derived.Test.YtkgimglkiniofaaMetreBarsNo
import Derived.Test.YtkgimglkiniofaaMetreLawA
namespace Go.Proofs.Ytkgimglkiniofaa

/-- The bars of a part are neighbours. -/
theorem outK_run {l : List Mt} (h : Changes l) (fr to : Int) : ∀ n, n ≤ 1048577 → ∃ s m : Nat, s + m ≤ n ∧ outK l fr to n = (List.range m).map (fun i => bg l ((s + i : Nat) : Int)) ∧ (0 < m → fr ≤ bg l s ∧ (s + m = n ∨ to ≤ bg l ((s + m : Nat) : Int))) := by
  intro n
  induction n with
  | zero => intro _; exact ⟨0, 0, by omega, rfl, fun h => by omega⟩
  | succ n ih =>
    intro hn
    obtain ⟨s, m, hsm, e, hm⟩ := ih (by omega)
    rw [outK_succ l fr to (by omega)]
    by_cases hp : inPart fr to (bg l n) = true
    · rw [if_pos hp]
      have hp2 : fr ≤ bg l n ∧ bg l n < to := of_decide_eq_true hp
      rcases Nat.eq_zero_or_pos m with rfl | hm0
      · refine ⟨n, 1, by omega, ?_, fun _ => ⟨hp2.1, .inl rfl⟩⟩
        rw [e]; simp
      · rcases (hm hm0).2 with e2 | e2
        · refine ⟨s, m + 1, by omega, ?_, fun _ => ⟨(hm hm0).1, .inl (by omega)⟩⟩
          rw [e, List.range_succ, List.map_append, ← e2]; rfl
        · exfalso
          by_cases e3 : s + m = n
          · rw [e3] at e2; omega
          · have := bg_lt h (a := ((s + m : Nat) : Int)) (b := (n : Int)) (by omega) (by omega) (by omega)
            omega
    · have hp1 : inPart fr to (bg l n) = false := by simpa using hp
      have hp2 : ¬ (fr ≤ bg l n ∧ bg l n < to) := of_decide_eq_false hp1
      rw [if_neg hp, List.append_nil]
      refine ⟨s, m, by omega, e, fun hm0 => ⟨(hm hm0).1, ?_⟩⟩
      rcases (hm hm0).2 with e2 | e2
      · right
        have := bg_lt h (a := ((s : Nat) : Int)) (b := (n : Int)) (by omega) (by omega) (by omega)
        rw [e2]
        have := (hm hm0).1
        omega
      · exact .inr e2
theorem mem_outK {l : List Mt} {fr to t : Int} : t ∈ outK l fr to 1048577 ↔ ∃ i : Nat, i ≤ 1048576 ∧ bg l i = t ∧ fr ≤ t ∧ t < to := by
  unfold outK
  rw [List.mem_filter, List.mem_map]
  constructor
  · rintro ⟨⟨i, hi, rfl⟩, hp⟩
    have := List.mem_range.1 hi
    have hp2 : fr ≤ bg l i ∧ bg l i < to := of_decide_eq_true hp
    exact ⟨i, by omega, rfl, hp2⟩
  · rintro ⟨i, hi, rfl, hp⟩
    exact ⟨⟨i, List.mem_range.2 (by omega), rfl⟩, decide_eq_true hp⟩
/-- The place where a bar begins. -/
theorem place_bg {l : List Mt} (h : Changes l) {i B b o r : Int} (h0 : 0 ≤ i) (h1 : i ≤ 1048576) (h2 : bg l i ≤ 16777216) (hT : PlaceRes l (bg l i) B b o r) : B = i ∧ b = 0 ∧ o = 0 ∧ r = 0 := by
  obtain ⟨k, hk, c1, c2⟩ := bar_in h h0 h1
  obtain ⟨_, _, m3, _, m5, _⟩ := (h.2.2.2 k hk).1
  have t := tickAt_in h (k := k) (bar := i) (beat := 0) (rest := 0) ⟨hk, c1, c2, by omega, by omega, by omega, by omega⟩
  have e : bg l i = tickAt l k i 0 0 := begin_is h hk c1 c2
  have b0 := (tickOf_bd h k (by omega)).1
  obtain ⟨hr, hS⟩ := place_of h (show 0 ≤ bg l i by omega) h2 hk (by omega) (by omega) hT
  obtain ⟨s1, s2, s3, s4, s5, s6⟩ := bg_spot h hS
  have pm := Int.mul_nonneg s2 (show 0 ≤ (nthM l k).2.2 by omega)
  have : ¬ B < i := fun hl => by
    obtain ⟨⟨hk2, d1, d2, d3, d4, d5, d6⟩, e4⟩ := spot_bar h hS
    have := bg_lt h s5 hl h1
    obtain ⟨k3, hk3, f1, f2⟩ := bar_in h (b := B + 1) (by omega) (by omega)
    have e3 := next_bar h hk2 d1 d2 hk3 f1 f2
    have e5 : bg l (B + 1) = tickAt l k3 (B + 1) 0 0 := begin_is h hk3 f1 f2
    have e6 : bg l B = tickAt l k B 0 0 := begin_is h hk2 d1 d2
    have hm1 := Int.mul_le_mul_of_nonneg_right (show b + 1 ≤ (nthM l k).2.1 by omega) (show 0 ≤ (nthM l k).2.2 by omega)
    rw [Int.add_mul, Int.one_mul] at hm1
    have e7 : lenOf l k = (nthM l k).2.1 * (nthM l k).2.2 := rfl
    by_cases e8 : B + 1 = i
    · rw [e8] at e5 e3; omega
    · have := bg_lt h (a := B + 1) (b := i) (by omega) (by omega) h1
      omega
  have : ¬ i < B := fun hl => by
    have := bg_lt h h0 hl s6
    omega
  obtain rfl : B = i := by omega
  refine ⟨rfl, ?_, by omega, hr⟩
  rcases Int.lt_or_eq_of_le s2 with h3 | h3
  · have := Int.mul_pos h3 (show 0 < (nthM l k).2.2 by omega)
    omega
  · exact h3.symm
/-- A tick is among the bars iff its place is the beginning of a bar. -/
theorem place_mem {l : List Mt} (h : Changes l) {fr to t B b o r : Int} (h1 : to ≤ 16777216) (h2 : fr ≤ t) (h3 : t < to) (hT : PlaceRes l t B b o r) : t ∈ outK l fr to 1048577 ↔ (r = 0 ∧ b = 0 ∧ o = 0) := by
  rw [mem_outK]
  constructor
  · rintro ⟨i, hi, rfl, _⟩
    obtain ⟨_, e2, e3, e4⟩ := place_bg h (by omega) (by omega) (by omega) hT
    exact ⟨e4, e2, e3⟩
  · rintro ⟨rfl, rfl, rfl⟩
    obtain ⟨_, _, _, k, hS⟩ := place_ok hT
    obtain ⟨s1, s2, s3, s4, s5, s6⟩ := bg_spot h hS
    obtain ⟨n, rfl⟩ := Int.eq_ofNat_of_zero_le s5
    exact ⟨n, by omega, by rw [← s1]; simp, h2, h3⟩
/-- Two parts. -/
theorem filter_parts {fr mid to : Int} (h1 : fr ≤ mid) (h2 : mid ≤ to) : ∀ xs : List Int, xs.Pairwise (· < ·) → xs.filter (inPart fr mid) ++ xs.filter (inPart mid to) = xs.filter (inPart fr to) := by
  intro xs
  induction xs with
  | nil => intro _; rfl
  | cons x xs ih =>
    intro hp
    obtain ⟨hx, hp⟩ := List.pairwise_cons.1 hp
    have i := ih hp
    simp only [List.filter_cons]
    unfold inPart at *
    by_cases c1 : fr ≤ x
    · by_cases c2 : x < mid
      · rw [if_pos (decide_eq_true ⟨c1, c2⟩), if_neg (by simp; omega), if_pos (decide_eq_true ⟨c1, by omega⟩), List.cons_append, i]
      · have e : xs.filter (fun t => decide (fr ≤ t ∧ t < mid)) = [] := List.filter_eq_nil_iff.2 fun t ht => by have := hx t ht; simp; omega
        have e1 : xs.filter (inPart fr mid) = [] := e
        unfold inPart at e1
        rw [e1] at i ⊢
        by_cases c3 : x < to
        · rw [if_neg (by simp; omega), if_pos (decide_eq_true ⟨by omega, c3⟩), if_pos (decide_eq_true ⟨c1, c3⟩), List.nil_append, ← i, List.nil_append]
        · rw [if_neg (by simp; omega), if_neg (by simp; omega), if_neg (by simp; omega), List.nil_append, ← i, List.nil_append]
    · rw [if_neg (by simp; omega), if_neg (by simp; omega), if_neg (by simp; omega), i]
theorem bgs_sorted {l : List Mt} (h : Changes l) : ∀ n, n ≤ 1048577 → ((List.range n).map fun (i : Nat) => bg l i).Pairwise (· < ·) := by
  intro n hn
  rw [List.pairwise_map]
  refine (List.pairwise_lt_range (n := n)).imp_of_mem ?_
  intro a b ha hb hab
  have := List.mem_range.1 hb
  exact bg_lt h (by omega) (by omega) (by omega)
theorem outK_parts {l : List Mt} (h : Changes l) {fr mid to : Int} (h1 : fr ≤ mid) (h2 : mid ≤ to) : outK l fr mid 1048577 ++ outK l mid to 1048577 = outK l fr to 1048577 :=
  filter_parts h1 h2 _ (bgs_sorted h _ (Nat.min_le_right _ _))
end Go.Proofs.Ytkgimglkiniofaa
