/- What is heard, sample by sample (layer 44). -/
import Derived.Test.YthnhnmmabjmjgaaOvdM
namespace Go.Proofs.Ythnhnmmabjmjgaa
open Go.ChangeShapes Go.WideShapes Go.ChangeAt Go.RowKit Go.Shelf

def hearsH (h : Int) (s : Ht) : Prop := s.2.2.2.1 = true ∧ s.2.2.2.2 = true ∧ s.1 ≤ h ∧ h < s.1 + s.2.1
instance (h : Int) (s : Ht) : Decidable (hearsH h s) := by unfold hearsH; exact inferInstance
/-- The song's sample that is heard at a sample of the engine; -1: none. -/
def hrdTo (l : List Ht) (h : Int) : Nat → Int
  | 0 => -1
  | k + 1 => if hearsH h (nthH l k) then (nthH l k).2.2.1 + h - (nthH l k).1 else hrdTo l h k
def hrd (l : List Ht) (h : Int) : Int := hrdTo l h l.length
theorem hrdTo_none {l : List Ht} {h : Int} {k : Nat} (g : ∀ j, j < k → ¬ hearsH h (nthH l j)) : hrdTo l h k = -1 := by
  induction k with
  | zero => rfl
  | succ k ih => unfold hrdTo; rw [if_neg (g k (by omega))]; exact ih fun j hj => g j (by omega)
/-- One span alone is heard. -/
theorem hears_one {l : List Ht} (ho : OrdTo l l.length) {h : Int} {i j : Nat} (hi : i < l.length) (hj : j < l.length) (h1 : hearsH h (nthH l i)) (h2 : hearsH h (nthH l j)) : i = j := by
  unfold hearsH at h1 h2
  rcases Nat.lt_trichotomy i j with c | c | c
  · have := ordH_step ho c hj
    have d : endH l (i + 1) = (nthH l i).1 + (nthH l i).2.1 := rfl
    omega
  · exact c
  · have := ordH_step ho c hi
    have d : endH l (j + 1) = (nthH l j).1 + (nthH l j).2.1 := rfl
    omega
theorem hrdTo_at {l : List Ht} (ho : OrdTo l l.length) {h : Int} {i : Nat} (hi : i < l.length) (h1 : hearsH h (nthH l i)) : ∀ k, k ≤ l.length → hrdTo l h k = if i < k then (nthH l i).2.2.1 + h - (nthH l i).1 else -1 := by
  intro k
  induction k with
  | zero => intro _; rfl
  | succ k ih =>
    intro hk
    unfold hrdTo
    by_cases c : hearsH h (nthH l k)
    · rw [if_pos c]
      obtain rfl := hears_one ho hi (by omega) h1 c
      rw [if_pos (by omega)]
    · rw [if_neg c, ih (by omega)]
      by_cases e : i = k
      · subst e; exact absurd h1 c
      · by_cases g : i < k
        · rw [if_pos g, if_pos (by omega)]
        · rw [if_neg g, if_neg (by omega)]
theorem hrd_at {l : List Ht} (ho : OrdTo l l.length) {h : Int} {i : Nat} (hi : i < l.length) (h1 : hearsH h (nthH l i)) : hrd l h = (nthH l i).2.2.1 + h - (nthH l i).1 := (hrdTo_at ho hi h1 _ (Nat.le_refl _)).trans (if_pos hi)
theorem hrd_no {l : List Ht} {h : Int} (g : ∀ j, j < l.length → ¬ hearsH h (nthH l j)) : hrd l h = -1 := hrdTo_none g
theorem hrd_cases {l : List Ht} (ho : OrdTo l l.length) (h : Int) : (hrd l h = -1 ∧ ∀ j, j < l.length → ¬ hearsH h (nthH l j)) ∨ ∃ i, i < l.length ∧ hearsH h (nthH l i) ∧ hrd l h = (nthH l i).2.2.1 + h - (nthH l i).1 ∧ 0 ≤ hrd l h := by
  by_cases c : ∃ i, i < l.length ∧ hearsH h (nthH l i)
  · obtain ⟨i, hi, h1⟩ := c
    refine .inr ⟨i, hi, h1, hrd_at ho hi h1, ?_⟩
    rw [hrd_at ho hi h1]
    have := (ho i hi).2.1
    unfold hearsH at h1
    omega
  · have g : ∀ j, j < l.length → ¬ hearsH h (nthH l j) := fun j hj hh => c ⟨j, hj, hh⟩
    exact .inl ⟨hrd_no g, g⟩

theorem hrd_in {l : List Ht} (ho : OrdTo l l.length) (h : Int) : -1 ≤ hrd l h ∧ hrd l h ≤ 2199023255552 := by
  rcases hrd_cases ho h with ⟨h1, _⟩ | ⟨i, hi, h1, h2, h3⟩
  · omega
  · have h4 := ho i hi
    unfold OkH at h4
    unfold hearsH at h1
    omega
theorem fm_congr {l : List Ht} {f g : Ht → Option Dt} (h : ∀ x ∈ l, f x = g x) : l.filterMap f = l.filterMap g := by
  induction l with
  | nil => rfl
  | cons a l ih => rw [List.filterMap_cons, List.filterMap_cons, h a (List.mem_cons_self ..), ih fun x hx => h x (List.mem_cons_of_mem _ hx)]
theorem filterMap_same {l : List Ht} {f g : Ht → Option Dt} (h : ∀ j, j < l.length → f (nthH l j) = g (nthH l j)) : l.filterMap f = l.filterMap g := by
  refine fm_congr fun x hx => ?_
  obtain ⟨i, hi, rfl⟩ := List.mem_iff_getElem.1 hx
  have := h i hi
  rwa [nthH_get hi] at this
theorem runH_same {first : Int} {k : Nat} {s : Ht} (h : ¬ hearsH (first + k) s) : runH first ((k + 1 : Nat) : Int) s = runH first (k : Int) s := by
  unfold runH
  by_cases c : s.2.2.2.1 = true ∧ s.2.2.2.2 = true
  · have hn : ¬ (s.1 ≤ first + k ∧ first + k < s.1 + s.2.1) := fun g => h ⟨c.1, c.2, g⟩
    by_cases d : ruF first s < ruT first (k : Int) s
    · have e : ruT first ((k + 1 : Nat) : Int) s = ruT first (k : Int) s := by unfold ruF ruT at *; omega
      rw [e]
    · have d' : ¬ ruF first s < ruT first ((k + 1 : Nat) : Int) s := fun g => d (by unfold ruF ruT at *; omega)
      rw [if_neg (fun g => d' g.2.2), if_neg (fun g => d g.2.2)]
  · rw [if_neg (fun g => c ⟨g.1, g.2.1⟩), if_neg (fun g => c ⟨g.1, g.2.1⟩)]
theorem runs_still {l : List Ht} {first : Int} {k : Nat} (h : ∀ j, j < l.length → ¬ hearsH (first + k) (nthH l j)) : runsL l first ((k + 1 : Nat) : Int) = runsL l first (k : Int) :=
  filterMap_same fun j hj => runH_same (h j hj)
/-- Where a span is heard, its part is the last one. -/
theorem runs_heard {l : List Ht} (ho : OrdTo l l.length) {first : Int} {k i : Nat} (hi : i < l.length) (h1 : hearsH (first + k) (nthH l i)) :
    ∃ (P : List Dt) (f at' : Int), 0 ≤ f ∧ f ≤ k ∧ at' + k - f = (nthH l i).2.2.1 + (first + k) - (nthH l i).1 ∧ runsL l first ((k + 1 : Nat) : Int) = P ++ [(f, k + 1 - f, at', 0)] ∧ runsL l first (k : Int) = if f < k then P ++ [(f, k - f, at', 0)] else P := by
  have hsplit : l = l.take i ++ nthH l i :: l.drop (i + 1) := by
    rw [nthH_get hi, List.getElem_cons_drop, List.take_append_drop]
  have hb : ∀ n : Int, (k : Int) ≤ n → n ≤ k + 1 → (l.drop (i + 1)).filterMap (runH first n) = [] := fun n hn1 hn2 => by
    refine List.filterMap_eq_nil_iff.2 fun x hx => ?_
    obtain ⟨j, hj, rfl⟩ := List.mem_iff_getElem.1 hx
    rw [List.getElem_drop]
    have hj' : i + 1 + j < l.length := by simp at hj; omega
    have hst := ordH_step ho (j := i) (k := i + 1 + j) (by omega) hj'
    rw [nthH_get hj'] at hst
    have d : endH l (i + 1) = (nthH l i).1 + (nthH l i).2.1 := rfl
    unfold hearsH at h1
    exact runH_behind (by unfold ruF; omega)
  have ha : (l.take i).filterMap (runH first ((k + 1 : Nat) : Int)) = (l.take i).filterMap (runH first (k : Int)) := by
    refine fm_congr fun x hx => ?_
    obtain ⟨j, hj, rfl⟩ := List.mem_iff_getElem.1 hx
    rw [List.getElem_take]
    have hj' : j < i := by simp at hj; omega
    rw [← nthH_get (show j < l.length by omega)]
    exact runH_same fun g => by have := hears_one ho (by omega) hi g h1; omega
  have h2 := h1
  unfold hearsH at h2
  have hF : ruF first (nthH l i) = max 0 ((nthH l i).1 - first) := rfl
  have hT : ∀ n, ruT first n (nthH l i) = min n ((nthH l i).1 + (nthH l i).2.1 - first) := fun _ => rfl
  refine ⟨(l.take i).filterMap (runH first (k : Int)), ruF first (nthH l i), (nthH l i).2.2.1 + first + ruF first (nthH l i) - (nthH l i).1, by omega, by omega, by omega, ?_, ?_⟩
  · conv => lhs; unfold runsL; rw [hsplit]
    rw [List.filterMap_append, List.filterMap_cons, ha, hb _ (by omega) (by omega)]
    have e : runH first ((k + 1 : Nat) : Int) (nthH l i) = some (ruF first (nthH l i), (k : Int) + 1 - ruF first (nthH l i), (nthH l i).2.2.1 + first + ruF first (nthH l i) - (nthH l i).1, 0) := by
      unfold runH
      rw [if_pos ⟨h2.1, h2.2.1, by rw [hT, hF]; omega⟩, hT, show min ((k + 1 : Nat) : Int) ((nthH l i).1 + (nthH l i).2.1 - first) = (k : Int) + 1 by omega]
    rw [e]
  · conv => lhs; unfold runsL; rw [hsplit]
    rw [List.filterMap_append, List.filterMap_cons, hb _ (by omega) (by omega)]
    by_cases c : ruF first (nthH l i) < k
    · have e : runH first (k : Int) (nthH l i) = some (ruF first (nthH l i), (k : Int) - ruF first (nthH l i), (nthH l i).2.2.1 + first + ruF first (nthH l i) - (nthH l i).1, 0) := by
        unfold runH
        rw [if_pos ⟨h2.1, h2.2.1, by rw [hT]; omega⟩, hT, show min (k : Int) ((nthH l i).1 + (nthH l i).2.1 - first) = (k : Int) by omega]
      rw [e, if_pos c]
    · have e : runH first (k : Int) (nthH l i) = none := if_neg fun g => by have := g.2.2; rw [hT] at this; omega
      rw [e, if_neg c]
      simp
theorem runs_ok {l : List Ht} (ho : OrdTo l l.length) {first n : Int} : ∀ r ∈ runsL l first n, RunOk n r := fun r hr => by
  obtain ⟨s, hs, e⟩ := List.mem_filterMap.1 hr
  obtain ⟨i, hi, rfl⟩ := List.mem_iff_getElem.1 hs
  have h1 := ho i hi
  have h2 := (endH_in (l := l) (k := i) fun j hj => ho j (by omega)).1
  rw [nthH_get hi] at h1
  unfold OkH at h1
  unfold runH at e
  split at e
  · rename_i g
    cases e
    have hF : ruF first l[i] = max 0 (l[i].1 - first) := rfl
    have hT : ruT first n l[i] = min n (l[i].1 + l[i].2.1 - first) := rfl
    have := g.2.2
    unfold RunOk
    dsimp only
    omega
  · cases e
theorem layF_runs {l : List Ht} (ho : OrdTo l l.length) (first n : Int) : ∀ b ∈ layF (runsL l first n), LaidOk n (layF (runsL l first n)).length b :=
  (foldD_ok (n := n) (runsL l first n) [] (runs_ok ho) (fun b hb => by cases hb)).1

/-- One sample more. -/
def bump (x : List Dt) : List Dt := x.set (x.length - 1) ((lastD x).1, (lastD x).2.1 + 1, (lastD x).2.2.1, (lastD x).2.2.2)
def nextOf (x : List Dt) (k : Nat) : Int := if x.length ≠ 0 ∧ (lastD x).1 + (lastD x).2.1 = k then (lastD x).2.2.1 + (lastD x).2.1 else -1
def oneOf (x : List Dt) (k : Nat) (t : Int) : Dt := (k, 1, t, if x.length = 0 then 0 else passD (lastD x) (k, 1, t, 0))
theorem lastD_app (x : List Dt) (y : Dt) : lastD (x ++ [y]) = y := by
  unfold lastD nthD
  rw [List.length_append, List.length_singleton, Nat.add_sub_cancel, List.getD_eq_getElem?_getD, List.getElem?_append_right (Nat.le_refl _), Nat.sub_self]
  rfl
theorem lastD_set {x : List Dt} (h : x.length ≠ 0) (y : Dt) : lastD (x.set (x.length - 1) y) = y := by
  unfold lastD nthD
  rw [List.length_set, List.getD_eq_getElem?_getD, List.getElem?_set_self (by omega)]
  rfl
theorem bump_app (x : List Dt) (y : Dt) : bump (x ++ [y]) = x ++ [(y.1, y.2.1 + 1, y.2.2.1, y.2.2.2)] := by
  unfold bump
  rw [lastD_app, List.length_append, List.length_singleton, Nat.add_sub_cancel, List.set_append_right _ _ (Nat.le_refl _), Nat.sub_self]
  rfl
theorem stepD_bump (X : List Dt) (f n at' : Int) : stepD X (f, n + 1, at', 0) = bump (stepD X (f, n, at', 0)) ∧ (stepD X (f, n, at', 0)).length ≠ 0 ∧ (lastD (stepD X (f, n, at', 0))).1 + (lastD (stepD X (f, n, at', 0))).2.1 = f + n ∧ (lastD (stepD X (f, n, at', 0))).2.2.1 + (lastD (stepD X (f, n, at', 0))).2.1 = at' + n := by
  by_cases h0 : X.length = 0
  · rw [stepD_first h0, stepD_first h0]
    exact ⟨(bump_app [] (f, n, at', 0)).symm, by simp, by unfold lastD; rfl, by unfold lastD; rfl⟩
  by_cases h1 : goesOn (lastD X) (f, n, at', 0)
  · rw [stepD_on h0 h1, stepD_on h0 (show goesOn (lastD X) (f, n + 1, at', 0) from h1)]
    refine ⟨?_, by simpa using h0, ?_, ?_⟩
    · unfold bump
      rw [lastD_set h0, List.length_set, List.set_set]
      dsimp only
      rw [Int.add_assoc]
    · rw [lastD_set h0]
      have := h1.1
      dsimp only at this ⊢
      omega
    · rw [lastD_set h0]
      have := h1.2
      dsimp only at this ⊢
      omega
  · rw [stepD_new h0 h1, stepD_new h0 (show ¬ goesOn (lastD X) (f, n + 1, at', 0) from h1), bump_app, lastD_app]
    exact ⟨rfl, by simp, rfl, rfl⟩
/-- The parts of the first k + 1 samples, out of those of the first k. -/
theorem lay_step {l : List Ht} (ho : OrdTo l l.length) (first : Int) (k : Nat) :
    layF (runsL l first ((k + 1 : Nat) : Int)) = (if hrd l (first + k) < 0 then layF (runsL l first (k : Int)) else if (layF (runsL l first (k : Int))).length ≠ 0 ∧ hrd l (first + k) = nextOf (layF (runsL l first (k : Int))) k then bump (layF (runsL l first (k : Int))) else layF (runsL l first (k : Int)) ++ [oneOf (layF (runsL l first (k : Int))) k (hrd l (first + k))]) ∧
    nextOf (layF (runsL l first ((k + 1 : Nat) : Int))) (k + 1) = if hrd l (first + k) < 0 then -1 else hrd l (first + k) + 1 := by
  rcases hrd_cases ho (first + k) with ⟨h1, h2⟩ | ⟨i, hi, h1, h2, h3⟩
  · rw [if_pos (show hrd l (first + k) < 0 by omega), if_pos (show hrd l (first + k) < 0 by omega), runs_still h2]
    refine ⟨rfl, if_neg fun g => ?_⟩
    have := layF_runs ho first k _ (lastD_mem g.1)
    unfold LaidOk at this
    omega
  · rw [if_neg (show ¬ hrd l (first + k) < 0 by omega), if_neg (show ¬ hrd l (first + k) < 0 by omega)]
    obtain ⟨P, f, at', hf0, hfk, hat, e1, e2⟩ := runs_heard ho hi h1
    rw [← h2] at hat
    generalize hrd l (first + k) = t at *
    by_cases c : f < k
    · rw [if_pos c] at e2
      rw [e1, e2, layF_snoc, layF_snoc]
      obtain ⟨s1, s2, s3, s4⟩ := stepD_bump (layF P) f (k - f) at'
      rw [show (k : Int) + 1 - f = k - f + 1 by omega, s1]
      have hn : nextOf (stepD (layF P) (f, (k : Int) - f, at', 0)) k = t := by
        unfold nextOf
        rw [if_pos ⟨s2, by omega⟩]
        omega
      rw [if_pos ⟨s2, hn.symm⟩]
      refine ⟨rfl, ?_⟩
      unfold nextOf
      rw [if_pos ⟨by unfold bump; rw [List.length_set]; exact s2, by unfold bump; rw [lastD_set s2]; dsimp only; omega⟩]
      unfold bump
      rw [lastD_set s2]
      dsimp only
      omega
    · rw [if_neg c] at e2
      rw [e1, e2, layF_snoc]
      obtain rfl : f = k := by omega
      obtain rfl : at' = t := by omega
      rw [show (k : Int) + 1 - k = 1 by omega]
      obtain ⟨_, s2, s3, s4⟩ := stepD_bump (layF P) k 1 at'
      refine ⟨?_, by unfold nextOf; rw [if_pos ⟨s2, by omega⟩]; omega⟩
      generalize layF P = X at *
      by_cases h0 : X.length = 0
      · rw [stepD_first h0, if_neg (fun g => g.1 h0)]
        obtain rfl := List.eq_nil_of_length_eq_zero h0
        rfl
      by_cases g : goesOn (lastD X) ((k : Int), 1, at', 0)
      · rw [stepD_on h0 g, if_pos ⟨h0, by unfold nextOf; rw [if_pos ⟨h0, g.1.symm⟩]; exact g.2⟩]
        rfl
      · rw [stepD_new h0 g, if_neg fun q => g ?_]
        · unfold oneOf
          rw [if_neg h0]
        · have q2 := q.2
          unfold nextOf at q2
          split at q2
          · rename_i q3
            exact ⟨q3.2.symm, q2⟩
          · omega
end Go.Proofs.Ythnhnmmabjmjgaa
