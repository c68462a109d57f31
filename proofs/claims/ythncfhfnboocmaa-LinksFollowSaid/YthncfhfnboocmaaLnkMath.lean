/- Links: what is right, ways back, cycles (layer 13): mathematics alone. -/
import Derived.Test.YthncfhfnboocmaaSJ
namespace Go.Proofs.Ythncfhfnboocmaa

/-- Among m + 1 numbers below m two are equal. -/
theorem pigeon : ∀ (m : Nat) (f : Nat → Nat), (∀ i, i ≤ m → f i < m) → ∃ i j, i < j ∧ j ≤ m ∧ f i = f j := by
  intro m
  induction m with
  | zero => intro f h; exact absurd (h 0 (Nat.le_refl _)) (by omega)
  | succ m ih =>
    intro f h
    by_cases hx : ∃ i, i ≤ m ∧ f i = f (m + 1)
    · obtain ⟨i, hi, e⟩ := hx
      exact ⟨i, m + 1, by omega, Nat.le_refl _, e⟩
    · have hne : ∀ i, i ≤ m → f i ≠ f (m + 1) := fun i hi e => hx ⟨i, hi, e⟩
      obtain ⟨i, j, h1, h2, h3⟩ := ih (fun i => if f i < f (m + 1) then f i else f i - 1) (fun i hi => by
        have a := h i (by omega)
        have b := h (m + 1) (Nat.le_refl _)
        have c := hne i hi
        show (if f i < f (m + 1) then f i else f i - 1) < m
        split <;> omega)
      have c1 := hne i (by omega)
      have c2 := hne j (by omega)
      refine ⟨i, j, h1, by omega, ?_⟩
      split at h3 <;> split at h3 <;> omega

/-- A link is right, between n parameters. -/
def okJ (n : Int) (x : Jt) : Prop := x.1 ≠ x.2.1 ∧ (0 ≤ x.1 ∧ x.1 < n) ∧ (0 ≤ x.2.1 ∧ x.2.1 < n) ∧ (-2147483647 ≤ x.2.2.1 ∧ x.2.2.1 ≤ 2147483647) ∧ (1 ≤ x.2.2.2.1 ∧ x.2.2.2.1 ≤ 2147483647) ∧ (-2147483648 ≤ x.2.2.2.2 ∧ x.2.2.2.2 ≤ 2147483647)
def okJs (n : Int) (l : List Jt) (k : Nat) : Prop := ∀ i, i < k → okJ n (nthJ l i)
/-- No two of the first k links lead to one parameter. -/
def apart (l : List Jt) (k : Nat) : Prop := ∀ i j, i < j → j < k → (nthJ l i).2.1 ≠ (nthJ l j).2.1
/-- The last one of the first k links that leads to p: its index and one more; 0: there is none. -/
def srcN (l : List Jt) (p : Int) : Nat → Nat
  | 0 => 0
  | k + 1 => if (nthJ l k).2.1 = p then k + 1 else srcN l p k
theorem srcN_le (l : List Jt) (p : Int) : ∀ k, srcN l p k ≤ k := by
  intro k
  induction k with
  | zero => exact Nat.le_refl _
  | succ k ih => unfold srcN; split <;> omega
theorem srcN_to {l : List Jt} {p : Int} : ∀ k, 0 < srcN l p k → (nthJ l (srcN l p k - 1)).2.1 = p := by
  intro k
  induction k with
  | zero => intro h; exact absurd h (by unfold srcN; omega)
  | succ k ih =>
    intro h
    unfold srcN at h ⊢
    by_cases e : (nthJ l k).2.1 = p
    · rw [if_pos e, Nat.add_sub_cancel]; exact e
    · rw [if_neg e] at h ⊢; exact ih h
theorem srcN_no {l : List Jt} {p : Int} : ∀ k, srcN l p k = 0 → ∀ i, i < k → (nthJ l i).2.1 ≠ p := by
  intro k
  induction k with
  | zero => intro _ i hi; omega
  | succ k ih =>
    intro h i hi
    unfold srcN at h
    by_cases e : (nthJ l k).2.1 = p
    · rw [if_pos e] at h; omega
    · rw [if_neg e] at h
      by_cases ei : i = k
      · subst ei; exact e
      · exact ih h i (by omega)
/-- With links that are apart, it is the one that leads there. -/
theorem srcN_is {l : List Jt} {p : Int} {k i : Nat} (h : apart l k) (hi : i < k) (he : (nthJ l i).2.1 = p) : srcN l p k = i + 1 := by
  have h0 : 0 < srcN l p k := by
    rcases Nat.eq_zero_or_pos (srcN l p k) with e | e
    · exact absurd he (srcN_no k e i hi)
    · exact e
  have hto := srcN_to k h0
  have hle := srcN_le l p k
  rcases Nat.lt_trichotomy i (srcN l p k - 1) with c | c | c
  · exact absurd (he.trans hto.symm) (h i _ c (by omega))
  · omega
  · exact absurd (hto.trans he.symm) (h _ i c hi)
/-- One step back. -/
def bk (l : List Jt) (p : Int) : Option Int := if srcN l p l.length = 0 then none else some (nthJ l (srcN l p l.length - 1)).1
def bks (l : List Jt) : Nat → Option Int → Option Int
  | 0, o => o
  | k + 1, o => bks l k (o.bind (bk l))
theorem bks_none (l : List Jt) : ∀ k, bks l k none = none := by
  intro k
  induction k with
  | zero => rfl
  | succ k ih => exact ih
theorem bks_succ (l : List Jt) : ∀ k o, bks l (k + 1) o = (bks l k o).bind (bk l) := by
  intro k
  induction k with
  | zero => intro o; rfl
  | succ k ih => intro o; exact ih (o.bind (bk l))
theorem bks_add (l : List Jt) : ∀ a b o, bks l (a + b) o = bks l b (bks l a o) := by
  intro a
  induction a with
  | zero => intro b o; rw [Nat.zero_add]; rfl
  | succ a ih => intro b o; rw [show a + 1 + b = (a + b) + 1 by omega]; exact ih b (o.bind (bk l))
theorem bks_mono {l : List Jt} {a b : Nat} {o : Option Int} (h : a ≤ b) (hn : bks l a o = none) : bks l b o = none := by
  rw [show b = a + (b - a) by omega, bks_add, hn, bks_none]
/-- A place that comes again on the way comes for ever. -/
theorem bks_loop {l : List Jt} {o : Option Int} {a b : Nat} (hab : a < b) (he : bks l a o = bks l b o) (hn : bks l a o ≠ none) : ∀ k, bks l k o ≠ none := by
  have step : ∀ m, bks l (a + m * (b - a)) o = bks l a o := by
    intro m
    induction m with
    | zero => simp
    | succ m ih =>
      rw [show a + (m + 1) * (b - a) = (a + m * (b - a)) + (b - a) by rw [Nat.succ_mul]; omega, bks_add, ih, ← bks_add, show a + (b - a) = b by omega, he]
  intro k hk
  have h1 := bks_mono (b := a + k * (b - a)) (by have : k ≤ k * (b - a) := Nat.le_mul_of_pos_right k (by omega); omega) hk
  rw [step k] at h1
  exact hn h1
theorem bk_some {l : List Jt} {i : Nat} (h : apart l l.length) (hi : i < l.length) : bk l (nthJ l i).2.1 = some (nthJ l i).1 := by
  have e := srcN_is h hi rfl
  unfold bk
  rw [e, if_neg (by omega), Nat.add_sub_cancel]
theorem bk_inv {l : List Jt} {p f : Int} (h : bk l p = some f) : ∃ i, i < l.length ∧ (nthJ l i).2.1 = p ∧ (nthJ l i).1 = f ∧ srcN l p l.length = i + 1 := by
  unfold bk at h
  by_cases e : srcN l p l.length = 0
  · rw [if_pos e] at h; cases h
  · rw [if_neg e] at h
    have h1 := srcN_le l p l.length
    exact ⟨srcN l p l.length - 1, by omega, srcN_to _ (by omega), by simpa using h, by omega⟩
theorem len_le {n : Int} {l : List Jt} (hok : okJs n l l.length) (hap : apart l l.length) (hn : 0 ≤ n) : (l.length : Int) ≤ n := by
  rcases Int.lt_or_le n (l.length : Int) with h | h
  · exfalso
    have hb : ∀ i, i ≤ n.toNat → (nthJ l i).2.1.toNat < n.toNat := fun i hi => by
      have := (hok i (by omega)).2.2.1
      omega
    obtain ⟨i, j, h1, h2, h3⟩ := pigeon n.toNat (fun i => (nthJ l i).2.1.toNat) hb
    have a := (hok i (by omega)).2.2.1
    have b := (hok j (by omega)).2.2.1
    exact hap i j h1 (by omega) (by omega)
  · exact h
/-- The ways back end, as the program sees it. -/
def ends1 (l : List Jt) : Prop := ∀ i, i < l.length → bks l l.length (some (nthJ l i).1) = none
/-- The ways back end, as the reference sees it. -/
def ends2 (n : Int) (l : List Jt) : Prop := ∀ p, 0 ≤ p → p < n → bks l (n.toNat + 1) (some p) = none
theorem bks_one (l : List Jt) (p : Int) : bks l 1 (some p) = bk l p := rfl
theorem bks_step (l : List Jt) (k : Nat) (p : Int) : bks l (k + 1) (some p) = bks l k (bk l p) := rfl
theorem ends_iff {n : Int} {l : List Jt} (hok : okJs n l l.length) (hap : apart l l.length) (hn : 0 ≤ n) : ends1 l ↔ ends2 n l := by
  have hlen := len_le hok hap hn
  constructor
  · intro h p h0 h1
    rw [bks_step]
    cases e : bk l p with
    | none => exact bks_none _ _
    | some f =>
      obtain ⟨i, hi, _, e2, _⟩ := bk_inv e
      rw [← e2]
      exact bks_mono (by omega) (h i hi)
  · intro h i hi
    have hto := (hok i hi).2.2.1
    have h1 := h _ hto.1 hto.2
    rw [bks_step, bk_some hap hi] at h1
    cases e : bks l l.length (some (nthJ l i).1) with
    | none => rfl
    | some z =>
      exfalso
      have alive : ∀ j, j ≤ l.length + 1 → bks l j (some (nthJ l i).2.1) ≠ none := fun j hj hc => by
        have := bks_mono hj hc
        rw [bks_step, bk_some hap hi, e] at this
        cases this
      have ex : ∀ j, j ≤ l.length → ∃ q, bks l j (some (nthJ l i).2.1) = some q ∧ ∃ m, m < l.length ∧ (nthJ l m).2.1 = q ∧ srcN l q l.length = m + 1 := fun j hj => by
        cases e1 : bks l j (some (nthJ l i).2.1) with
        | none => exact absurd e1 (alive j (by omega))
        | some q =>
          have h2 := alive (j + 1) (by omega)
          rw [bks_succ, e1] at h2
          cases e3 : bk l q with
          | none => exact absurd e3 h2
          | some f =>
            obtain ⟨m, hm, e4, _, e5⟩ := bk_inv e3
            exact ⟨q, rfl, m, hm, e4, e5⟩
      obtain ⟨f, hf⟩ := Classical.axiomOfChoice (r := fun (j : Nat) (m : Nat) => j ≤ l.length → ∃ q, bks l j (some (nthJ l i).2.1) = some q ∧ m < l.length ∧ (nthJ l m).2.1 = q) (fun j => by
        by_cases hj : j ≤ l.length
        · obtain ⟨q, h1, m, h2, h3, _⟩ := ex j hj
          exact ⟨m, fun _ => ⟨q, h1, h2, h3⟩⟩
        · exact ⟨0, fun h => absurd h hj⟩)
      obtain ⟨a, b, hab, hb, hfe⟩ := pigeon l.length f (fun j hj => by obtain ⟨q, _, h2, _⟩ := hf j hj; exact h2)
      obtain ⟨qa, ha1, _, ha3⟩ := hf a (by omega)
      obtain ⟨qb, hb1, _, hb3⟩ := hf b hb
      have hq : qa = qb := by rw [← ha3, ← hb3, hfe]
      exact bks_loop hab (by rw [ha1, hb1, hq]) (by rw [ha1]; simp) _ (h _ hto.1 hto.2)

/-- A parameter is the next one that may come. -/
def rdy (l : List Jt) (lst : List Int) (p : Int) : Prop := p ∉ lst ∧ ∀ f, bk l p = some f → f ∈ lst
theorem has_rdy {n : Int} {l : List Jt} (hok : okJs n l l.length) {lst : List Int} : ∀ (m : Nat) (p : Int), 0 ≤ p → p < n → p ∉ lst → bks l m (some p) = none → ∃ q, 0 ≤ q ∧ q < n ∧ rdy l lst q := by
  intro m
  induction m with
  | zero => intro p _ _ _ h; cases h
  | succ m ih =>
    intro p h0 h1 hp h
    rw [bks_step] at h
    cases e : bk l p with
    | none => exact ⟨p, h0, h1, hp, fun f hf => by rw [e] at hf; cases hf⟩
    | some f =>
      by_cases hf : f ∈ lst
      · exact ⟨p, h0, h1, hp, fun g hg => by rw [e] at hg; cases hg; exact hf⟩
      · obtain ⟨i, hi, _, e2, _⟩ := bk_inv e
        have := (hok i hi).2.1
        rw [e] at h
        exact ih f (by omega) (by omega) hf h
/-- As long as fewer than n are listed, one is not. -/
theorem has_new {lst : List Int} {n : Nat} (h : lst.length < n) : ∃ p : Int, 0 ≤ p ∧ p < n ∧ p ∉ lst := by
  refine Classical.byContradiction fun hc => ?_
  have hall : ∀ p : Nat, p < n → (p : Int) ∈ lst := fun p hp => Classical.byContradiction fun h1 => hc ⟨p, by omega, by omega, h1⟩
  have hix : ∀ p : Nat, ∃ i, p < n → i < lst.length ∧ lst[i]? = some (p : Int) := fun p => by
    by_cases hp : p < n
    · obtain ⟨i, hi, e⟩ := List.mem_iff_getElem.1 (hall p hp)
      exact ⟨i, fun _ => ⟨hi, by rw [List.getElem?_eq_getElem hi, e]⟩⟩
    · exact ⟨0, fun h => absurd h hp⟩
  obtain ⟨f, hf⟩ := Classical.axiomOfChoice hix
  obtain ⟨i, j, h1, h2, h3⟩ := pigeon lst.length f (fun i hi => (hf i (by omega)).1)
  have a := (hf i (by omega)).2
  have b := (hf j (by omega)).2
  rw [h3, b] at a
  simp at a
  omega
/-- The least parameter that may come next. -/
theorem has_next {n : Nat} {l : List Jt} (hok : okJs n l l.length) (hap : apart l l.length) (hen : ends1 l) {lst : List Int} (h : lst.length < n) : ∃ p : Nat, p < n ∧ rdy l lst p ∧ ∀ q : Nat, q < p → ¬ rdy l lst q := by
  obtain ⟨p, h0, h1, hp⟩ := has_new h
  have he := (ends_iff hok hap (by omega)).1 hen p h0 h1
  obtain ⟨q, q0, q1, hq⟩ := has_rdy hok _ p h0 h1 hp he
  have key : ∀ m : Nat, (∃ q : Nat, q < m ∧ rdy l lst q) → ∃ p : Nat, p < m ∧ rdy l lst p ∧ ∀ q : Nat, q < p → ¬ rdy l lst q := by
    intro m
    induction m with
    | zero => rintro ⟨q, hq, _⟩; omega
    | succ m ih =>
      rintro ⟨q, hq, hr⟩
      by_cases hm : ∃ q : Nat, q < m ∧ rdy l lst q
      · obtain ⟨p, a, b, c⟩ := ih hm
        exact ⟨p, by omega, b, c⟩
      · have : q = m := by
          rcases Nat.lt_or_ge q m with h | h
          · exact absurd ⟨q, h, hr⟩ hm
          · omega
        subst this
        exact ⟨q, by omega, hr, fun r hr2 hr3 => hm ⟨r, hr2, hr3⟩⟩
  exact key n ⟨q.toNat, by omega, by rw [show ((q.toNat : Nat) : Int) = q by omega]; exact hq⟩
end Go.Proofs.Ythncfhfnboocmaa
