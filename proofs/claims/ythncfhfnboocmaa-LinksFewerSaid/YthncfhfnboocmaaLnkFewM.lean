/- Links: one link less (layer 13): mathematics alone. -/
import Derived.Test.YthncfhfnboocmaaLnkVM
namespace Go.Proofs.Ythncfhfnboocmaa

theorem bk_nil {l : List Jt} {p : Int} (h : ∀ i, i < l.length → (nthJ l i).2.1 ≠ p) : bk l p = none := by
  unfold bk
  by_cases e : srcN l p l.length = 0
  · rw [if_pos e]
  · have h1 := srcN_le l p l.length
    exact absurd (srcN_to l.length (p := p) (l := l) (by omega)) (h _ (by omega))
theorem bks_all {m : Nat} {l : List Jt} (h : Good m l) {p : Int} (h0 : 0 ≤ p) (h1 : p < m) : bks l (m + 1) (some p) = none := by
  have := (ends_iff h.ok h.ap (by omega)).1 h.en p h0 h1
  rwa [Int.toNat_natCast] at this
/-- As many steps as there are links end every way. -/
theorem bks_few {m : Nat} {l : List Jt} (h : Good m l) {p : Int} : bks l (l.length + 1) (some p) = none := by
  rw [bks_step]
  cases e : bk l p with
  | none => exact bks_none _ _
  | some f =>
    obtain ⟨i, hi, _, e2, _⟩ := bk_inv e
    rw [← e2]
    exact h.en i hi
def lessJ (l : List Jt) (i : Nat) : List Jt := l.take i ++ l.drop (i + 1)
theorem lessJ_len {l : List Jt} {i : Nat} (hi : i < l.length) : (lessJ l i).length = l.length - 1 := by
  unfold lessJ; rw [List.length_append, List.length_take, List.length_drop]; omega
theorem lessJ_nth {l : List Jt} {i : Nat} (hi : i < l.length) (j : Nat) : nthJ (lessJ l i) j = if j < i then nthJ l j else nthJ l (j + 1) := by
  unfold nthJ lessJ
  simp only [List.getD_eq_getElem?_getD]
  by_cases h : j < i
  · rw [if_pos h, List.getElem?_append_left (by rw [List.length_take]; omega), List.getElem?_take, if_pos h]
  · rw [if_neg h, List.getElem?_append_right (by rw [List.length_take]; omega), List.getElem?_drop, List.length_take, show i + 1 + (j - min i l.length) = j + 1 by omega]
theorem lessJ_mem {l : List Jt} {i j : Nat} (hi : i < l.length) (hj : j < (lessJ l i).length) : ∃ k, k < l.length ∧ k ≠ i ∧ nthJ (lessJ l i) j = nthJ l k := by
  rw [lessJ_len hi] at hj
  rw [lessJ_nth hi]
  by_cases h : j < i
  · rw [if_pos h]; exact ⟨j, by omega, by omega, rfl⟩
  · rw [if_neg h]; exact ⟨j + 1, by omega, by omega, rfl⟩
theorem lessJ_of {l : List Jt} {i k : Nat} (hi : i < l.length) (hk : k < l.length) (h : k ≠ i) : ∃ j, j < (lessJ l i).length ∧ nthJ (lessJ l i) j = nthJ l k := by
  rw [lessJ_len hi]
  by_cases c : k < i
  · exact ⟨k, by omega, by rw [lessJ_nth hi, if_pos c]⟩
  · exact ⟨k - 1, by omega, by rw [lessJ_nth hi, if_neg (by omega), show k - 1 + 1 = k by omega]⟩
theorem less_apart {l : List Jt} {i : Nat} (hi : i < l.length) (h : apart l l.length) : apart (lessJ l i) (lessJ l i).length := fun a b hab hb => by
  rw [lessJ_len hi] at hb
  rw [lessJ_nth hi, lessJ_nth hi]
  by_cases h1 : a < i
  · rw [if_pos h1]
    by_cases h2 : b < i
    · rw [if_pos h2]; exact h a b hab (by omega)
    · rw [if_neg h2]; exact h a (b + 1) (by omega) (by omega)
  · rw [if_neg h1, if_neg (by omega)]; exact h (a + 1) (b + 1) (by omega) (by omega)
theorem less_bk {l : List Jt} {i : Nat} (hi : i < l.length) (h : apart l l.length) (p : Int) : bk (lessJ l i) p = none ∨ bk (lessJ l i) p = bk l p := by
  cases e : bk (lessJ l i) p with
  | none => exact .inl rfl
  | some f =>
    obtain ⟨j, hj, e1, e2, _⟩ := bk_inv e
    obtain ⟨k, hk, _, e3⟩ := lessJ_mem hi hj
    rw [e3] at e1 e2
    have := bk_some h hk
    rw [e1, e2] at this
    exact .inr this.symm
theorem less_bks {l : List Jt} {i : Nat} (hi : i < l.length) (h : apart l l.length) : ∀ k o, bks (lessJ l i) k o = none ∨ bks (lessJ l i) k o = bks l k o := by
  intro k
  induction k with
  | zero => intro o; exact .inr rfl
  | succ k ih =>
    intro o
    rw [bks_succ, bks_succ]
    rcases ih o with e | e
    · rw [e]; exact .inl rfl
    · rw [e]
      cases bks l k o with
      | none => exact .inl rfl
      | some q => exact less_bk hi h q
theorem less_good {m : Nat} {l : List Jt} (h : Good m l) {i : Nat} (hi : i < l.length) : Good m (lessJ l i) := by
  have ok : okJs (m : Int) (lessJ l i) (lessJ l i).length := fun j hj => by
    obtain ⟨k, hk, _, e⟩ := lessJ_mem hi hj
    rw [e]; exact h.ok k hk
  have ap := less_apart hi h.ap
  refine ⟨h.le, by rw [lessJ_len hi]; have := h.few; omega, ok, ap, (ends_iff ok ap (by omega)).2 fun p h0 h1 => ?_⟩
  rcases less_bks hi h.ap (Int.toNat (m : Int) + 1) (some p) with e | e
  · exact e
  · rw [e, Int.toNat_natCast]; exact bks_all h h0 h1
/-- p follows T by at most r links. -/
def foll (l : List Jt) (T : Int) (r : Nat) (p : Int) : Prop := ∃ d, d ≤ r ∧ bks l d (some p) = some T
theorem foll_zero (l : List Jt) (T : Int) (r : Nat) : foll l T r T := ⟨0, Nat.zero_le _, rfl⟩
theorem foll_next {l : List Jt} {T : Int} {r : Nat} {p : Int} (h : foll l T (r + 1) p) : foll l T r p ∨ ∃ j, j < l.length ∧ (nthJ l j).2.1 = p ∧ foll l T r (nthJ l j).1 := by
  obtain ⟨d, hd, e⟩ := h
  by_cases c : d ≤ r
  · exact .inl ⟨d, c, e⟩
  · obtain rfl : d = r + 1 := by omega
    rw [bks_step] at e
    cases e1 : bk l p with
    | none => rw [e1, bks_none] at e; cases e
    | some f =>
      rw [e1] at e
      obtain ⟨j, hj, e2, e3, _⟩ := bk_inv e1
      exact .inr ⟨j, hj, e2, r, Nat.le_refl _, by rw [e3]; exact e⟩
theorem foll_all {m : Nat} {l : List Jt} (h : Good m l) {T p : Int} {d : Nat} (e : bks l d (some p) = some T) : foll l T l.length p := by
  refine ⟨d, ?_, e⟩
  rcases Nat.lt_or_ge l.length d with c | c
  · have := bks_mono (l := l) (o := some p) (show l.length + 1 ≤ d by omega) (bks_few h)
    rw [this] at e; cases e
  · exact c
/-- What does not follow the target of the link that is gone keeps its value. -/
theorem less_same {l : List Jt} {vs : List Int} (h : Good vs.length l) {i : Nat} (hi : i < l.length) : ∀ k, k < vs.length → (∀ r, ¬ foll (lessJ l i) (nthJ l i).2.1 r (atO vs.length l k : Int)) → (valK l vs vs.length).getD (atO vs.length l k) 0 = (valK (lessJ l i) vs vs.length).getD (atO vs.length l k) 0 := by
  have hg := less_good h hi
  intro k
  induction k using Nat.strongRecOn with
  | ind k ih =>
    intro hk hno
    have hp := h.at_lt hk
    by_cases hs : ∃ j, j < l.length ∧ (nthJ l j).2.1 = (atO vs.length l k : Int)
    · obtain ⟨j, hj, e⟩ := hs
      have hji : j ≠ i := fun c => hno 0 (by rw [← e, c]; exact foll_zero _ _ _)
      obtain ⟨q, hq, eq⟩ := lessJ_of hi hj hji
      obtain ⟨s, hs, es⟩ := h.before hj hk e.symm
      have v1 := val_link h hj
      have v2 := val_link hg hq
      rw [eq] at v2
      have ih' := ih s hs (by omega) (fun r ⟨d, hd, e5⟩ => hno (r + 1) ⟨d + 1, by omega, by
        rw [bks_step]
        have : bk (lessJ l i) (nthJ (lessJ l i) q).2.1 = some (nthJ (lessJ l i) q).1 := bk_some hg.ap hq
        rw [eq, e] at this
        rw [this, ← es]; exact e5⟩)
      have hf : (nthJ l j).1.toNat = atO vs.length l s := by omega
      rw [e, Int.toNat_natCast, hf] at v1 v2
      rw [v1, v2, ih']
    · have h1 : ∀ j, j < l.length → (nthJ l j).2.1 ≠ (atO vs.length l k : Int) := fun j hj e => hs ⟨j, hj, e⟩
      have s0 : ∀ l' : List Jt, (∀ j, j < l'.length → (nthJ l' j).2.1 ≠ (atO vs.length l k : Int)) → srcN l' (atO vs.length l k : Int) l'.length = 0 := fun l' hl' => by
        rcases Nat.eq_zero_or_pos (srcN l' (atO vs.length l k : Int) l'.length) with c | c
        · exact c
        · exact absurd (srcN_to _ c) (hl' _ (by have := srcN_le l' (atO vs.length l k : Int) l'.length; omega))
      rw [val_own h hp (s0 l h1), val_own hg hp (s0 _ (fun j hj => by obtain ⟨q, hq, _, e⟩ := lessJ_mem hi hj; rw [e]; exact h1 q hq))]
theorem less_keeps {l : List Jt} {vs : List Int} (h : Good vs.length l) {i : Nat} (hi : i < l.length) {p : Nat} (hp : p < vs.length) (hno : ¬ foll (lessJ l i) (nthJ l i).2.1 (lessJ l i).length (p : Int)) : (valK l vs vs.length).getD p 0 = (valK (lessJ l i) vs vs.length).getD p 0 := by
  obtain ⟨k, hk, e⟩ := h.all hp
  subst e
  exact less_same h hi k hk (fun r ⟨d, _, hd⟩ => hno (foll_all (less_good h hi) hd))
end Go.Proofs.Ythncfhfnboocmaa
