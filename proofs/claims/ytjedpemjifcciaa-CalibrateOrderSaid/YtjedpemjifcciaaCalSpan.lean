/- What Changed answers, as a set of positions; what a record that is added does to the results (layer 42). Pure. -/
import Derived.Test.YtjedpemjifcciaaCalLawA
namespace Go.Proofs.Ytjedpemjifcciaa
open Go.ChangeShapes Go.WideShapes Go.ChangeAt Go.RowKit Go.Sort Go.Shelf

def spanR (s t : Yt) : Prop := s.1 < t.1 ∨ (s.1 = t.1 ∧ s.2.2 < t.2.1)
def okS (s : Yt) : Prop := (0 ≤ s.1 ∧ s.1 ≤ 15) ∧ 0 ≤ s.2.1 ∧ s.2.1 < s.2.2 ∧ s.2.2 ≤ 1099511627777
def inS (d p : Int) (s : Yt) : Prop := s.1 = d ∧ s.2.1 ≤ p ∧ p < s.2.2
instance (d p : Int) (s : Yt) : Decidable (inS d p s) := by unfold inS; infer_instance
def Canon (x : List Yt) : Prop := (∀ s ∈ x, okS s) ∧ x.Pairwise spanR
def memS (x : List Yt) (d p : Int) : Prop := ∃ s ∈ x, inS d p s
theorem Canon.tail {s : Yt} {r : List Yt} (h : Canon (s :: r)) : Canon r := ⟨fun u hu => h.1 u (List.mem_cons_of_mem _ hu), (List.pairwise_cons.1 h.2).2⟩
theorem Canon.rel {s : Yt} {r : List Yt} (h : Canon (s :: r)) : ∀ u ∈ r, spanR s u := (List.pairwise_cons.1 h.2).1
theorem canon_lead {s : Yt} {r : List Yt} (h : Canon (s :: r)) {d p : Int} (hm : memS (s :: r) d p) : s.1 < d ∨ (s.1 = d ∧ s.2.1 ≤ p) := by
  obtain ⟨u, hu, h1, h2, h3⟩ := hm
  rcases List.mem_cons.1 hu with rfl | hu
  · exact .inr ⟨h1, h2⟩
  · have := h.rel u hu
    have ho := h.1 s (List.mem_cons_self ..)
    unfold spanR at this
    unfold okS at ho
    omega
theorem canon_gap {s : Yt} {r : List Yt} (h : Canon (s :: r)) : ¬ memS (s :: r) s.1 s.2.2 := by
  rintro ⟨u, hu, h1, h2, h3⟩
  rcases List.mem_cons.1 hu with rfl | hu
  · omega
  · have := h.rel u hu
    unfold spanR at this
    omega
theorem canon_rest {s : Yt} {r : List Yt} (h : Canon (s :: r)) (d p : Int) : memS r d p ↔ memS (s :: r) d p ∧ ¬ inS d p s := by
  constructor
  · rintro ⟨u, hu, h1, h2, h3⟩
    refine ⟨⟨u, List.mem_cons_of_mem _ hu, h1, h2, h3⟩, fun ⟨g1, g2, g3⟩ => ?_⟩
    have := h.rel u hu
    unfold spanR at this
    omega
  · rintro ⟨⟨u, hu, hin⟩, hn⟩
    rcases List.mem_cons.1 hu with rfl | hu
    · exact absurd hin hn
    · exact ⟨u, hu, hin⟩
theorem canon_head {s : Yt} {r : List Yt} (h : Canon (s :: r)) : memS (s :: r) s.1 s.2.1 :=
  ⟨s, List.mem_cons_self .., rfl, Int.le_refl _, (h.1 s (List.mem_cons_self ..)).2.2.1⟩
theorem canon_far {s t : Yt} {r q : List Yt} (h : Canon (s :: r)) (hm : ∀ d p, memS (s :: r) d p ↔ memS (t :: q) d p) (e1 : s.1 = t.1) (e2 : s.2.1 = t.2.1) : ¬ s.2.2 < t.2.2 := fun hlt => by
  have ho := h.1 s (List.mem_cons_self ..)
  unfold okS at ho
  exact canon_gap h ((hm _ _).2 ⟨t, List.mem_cons_self .., e1.symm, by omega, hlt⟩)
theorem canon_uniq : ∀ (x y : List Yt), Canon x → Canon y → (∀ d p, memS x d p ↔ memS y d p) → x = y
  | [], [], _, _, _ => rfl
  | [], t :: q, _, h', hm => by
    obtain ⟨u, hu, _⟩ := (hm _ _).2 (canon_head h')
    cases hu
  | s :: r, [], h, _, hm => by
    obtain ⟨u, hu, _⟩ := (hm _ _).1 (canon_head h)
    cases hu
  | s :: r, t :: q, h, h', hm => by
    have g1 := canon_lead h' ((hm _ _).1 (canon_head h))
    have g2 := canon_lead h ((hm _ _).2 (canon_head h'))
    have e1 : s.1 = t.1 := by omega
    have e2 : s.2.1 = t.2.1 := by omega
    have f1 := canon_far h hm e1 e2
    have f2 := canon_far h' (fun d p => (hm d p).symm) e1.symm e2.symm
    have e3 : s.2.2 = t.2.2 := by omega
    obtain ⟨s1, s2, s3⟩ := s
    obtain ⟨t1, t2, t3⟩ := t
    dsimp only at e1 e2 e3
    subst e1 e2 e3
    rw [canon_uniq r q h.tail h'.tail fun d p => by rw [canon_rest h, canon_rest h', hm]]

/-- One stretch after another. -/
def Link : Int → List (Int × Int) → Int → Prop
  | a, [], b => a = b
  | a, s :: r, b => s.1 = a ∧ s.1 < s.2 ∧ Link s.2 r b
theorem link_le : ∀ {S : List (Int × Int)} {a b : Int}, Link a S b → a ≤ b
  | [], a, b, h => by cases h; exact Int.le_refl _
  | s :: r, a, b, h => by
    obtain ⟨h1, h2, h3⟩ := h
    have := link_le h3
    omega
theorem link_snoc : ∀ {S : List (Int × Int)} {a f t : Int}, Link a S f → f < t → Link a (S ++ [(f, t)]) t
  | [], a, f, t, h, ht => by cases h; exact ⟨rfl, ht, rfl⟩
  | s :: r, a, f, t, h, ht => ⟨h.1, h.2.1, link_snoc h.2.2 ht⟩
def clear (l : List Rt) (d : Int) (s : Int × Int) : Prop := ∀ j, j < l.length → (nthR l j).1 = d → ¬ (s.1 < (nthR l j).2.1 ∧ (nthR l j).2.1 < s.2)
theorem rec_le {l : List Rt} (h : okTo l l.length) {i j : Nat} (hij : i < j) (hj : j < l.length) (e : (nthR l i).1 = (nthR l j).1) : (nthR l i).2.1 ≤ (nthR l j).2.1 := by
  have := recs_lt h hij hj
  unfold ltK ky at this
  dsimp only at this
  omega
theorem strTo_spec {l : List Rt} (h : okTo l l.length) (d : Int) : ∀ k, k ≤ l.length → Link 0 (strTo l d k).1 (strTo l d k).2 ∧ (∀ s ∈ (strTo l d k).1, clear l d s) ∧ (0 ≤ (strTo l d k).2 ∧ (strTo l d k).2 ≤ 1099511627776) ∧ (∀ j, j < k → (nthR l j).1 = d → (nthR l j).2.1 ≤ (strTo l d k).2) ∧ ((strTo l d k).2 = 0 ∨ ∃ j, j < k ∧ (nthR l j).1 = d ∧ (nthR l j).2.1 = (strTo l d k).2)
  | 0, _ => ⟨rfl, fun s hs => (by cases hs), (by simp [strTo]), fun j hj => (by omega), .inl rfl⟩
  | k + 1, hk => by
    obtain ⟨i1, i2, i3, i4, i5⟩ := strTo_spec h d k (by omega)
    by_cases hs : (nthR l k).1 ≠ d ∨ (nthR l k).2.1 = (strTo l d k).2
    · rw [strTo_skip hs]
      refine ⟨i1, i2, i3, fun j hj hd => ?_, ?_⟩
      · by_cases e : j = k
        · subst e
          rcases hs with hs | hs
          · exact absurd hd hs
          · omega
        · exact i4 j (by omega) hd
      · rcases i5 with i5 | ⟨j, h1, h2⟩
        · exact .inl i5
        · exact .inr ⟨j, by omega, h2⟩
    · have hd : (nthR l k).1 = d := by
        by_cases e : (nthR l k).1 = d
        · exact e
        · exact absurd (.inl e) hs
      have hne : (nthR l k).2.1 ≠ (strTo l d k).2 := fun e => hs (.inr e)
      rw [strTo_more hd hne]
      have ho := (h k (by omega)).1
      unfold okR at ho
      have hlt : (strTo l d k).2 < (nthR l k).2.1 := by
        rcases i5 with i5 | ⟨j, h1, h2, h3⟩
        · omega
        · have := rec_le h h1 (by omega) (h2.trans hd.symm)
          omega
      refine ⟨link_snoc i1 hlt, fun s hs => ?_, by dsimp only; omega, fun j hj hdj => ?_, .inr ⟨k, by omega, hd, rfl⟩⟩
      · rcases List.mem_append.1 hs with hs | hs
        · exact i2 s hs
        · rw [List.mem_singleton.1 hs]
          intro j hj hdj
          dsimp only
          rcases Nat.lt_or_ge j k with g | g
          · have := i4 j g hdj; omega
          · rcases Nat.eq_or_lt_of_le g with e | g
            · subst e; omega
            · have := rec_le h g hj (hd.trans hdj.symm); omega
      · dsimp only
        by_cases e : j = k
        · subst e; omega
        · have := i4 j (by omega) hdj; omega
theorem strs_spec {l : List Rt} (h : okTo l l.length) (d : Int) : Link 0 (strs l d) 1099511627777 ∧ ∀ s ∈ strs l d, clear l d s := by
  obtain ⟨i1, i2, i3, i4, _⟩ := strTo_spec h d l.length (Nat.le_refl _)
  unfold strs
  refine ⟨link_snoc i1 (by omega), fun s hs => ?_⟩
  rcases List.mem_append.1 hs with hs | hs
  · exact i2 s hs
  · rw [List.mem_singleton.1 hs]
    intro j hj hdj
    dsimp only
    have := i4 j hj hdj
    omega
theorem cnt_congr {l : List Rt} {d p p' k : Int} : ∀ (m : Nat), (∀ j, j < m → (mat d p k (nthR l j) ↔ mat d p' k (nthR l j))) → cnt l d p k m = cnt l d p' k m
  | 0, _ => rfl
  | m + 1, h => by
    have ih := cnt_congr m fun j hj => h j (by omega)
    by_cases e : mat d p k (nthR l m)
    · rw [cnt_yes e, cnt_yes ((h m (by omega)).1 e)]
    · rw [cnt_no e, cnt_no fun g => e ((h m (by omega)).2 g), ih]
theorem cnt_flat {l : List Rt} {d p k : Int} {s : Int × Int} (h : clear l d s) (h1 : s.1 ≤ p) (h2 : p < s.2) : cnt l d p k l.length = cnt l d s.1 k l.length :=
  cnt_congr _ fun j hj => by
    have := h j hj
    unfold mat
    constructor
    · rintro ⟨g1, g2, g3⟩; exact ⟨g1, by have := this g1; omega, g3⟩
    · rintro ⟨g1, g2, g3⟩; exact ⟨g1, by omega, g3⟩
/-- The results differ there. -/
def Dif (l : List Rt) (bef aft d p : Int) : Prop := cnt l d p bef l.length ≠ cnt l d p aft l.length
structure Inv (l : List Rt) (bef aft d f : Int) (x : List Yt) : Prop where
  can : Canon x
  low : ∀ s ∈ x, s.1 < d ∨ (s.1 = d ∧ s.2.2 ≤ f)
  is : ∀ d' p, 0 ≤ d' → 0 ≤ p → p < 1099511627777 → (d' < d ∨ (d' = d ∧ p < f)) → (memS x d' p ↔ Dif l bef aft d' p)
theorem Inv.step {l : List Rt} {bef aft d f t : Int} {x : List Yt} (h : Inv l bef aft d f x) (hd : 0 ≤ d ∧ d ≤ 15) (hf : 0 ≤ f) (hft : f < t) (ht : t ≤ 1099511627777) (hc : clear l d (f, t)) : Inv l bef aft d t (stepY l bef aft d x (f, t)) := by
  have flat : ∀ p, f ≤ p → p < t → (Dif l bef aft d p ↔ Dif l bef aft d f) := fun p h1 h2 => by
    unfold Dif
    rw [cnt_flat hc h1 h2, cnt_flat hc h1 h2]
  have out : ∀ p, f ≤ p → ¬ memS x d p := fun p h1 ⟨s, hs, g1, g2, g3⟩ => by
    have := h.low s hs
    omega
  by_cases hD : cnt l d f bef l.length = cnt l d f aft l.length
  · rw [stepY_no (s := (f, t)) hD]
    refine ⟨h.can, fun s hs => by have := h.low s hs; omega, fun d' p g1 g2 g3 g4 => ?_⟩
    by_cases g : d' = d ∧ f ≤ p
    · obtain ⟨rfl, g⟩ := g
      constructor
      · intro hm; exact absurd hm (out p g)
      · intro hdf; exact absurd hD ((flat p g (by omega)).1 hdf)
    · exact h.is d' p g1 g2 g3 (by omega)
  rw [stepY_yes (s := (f, t)) hD]
  have hDf : Dif l bef aft d f := hD
  -- the list ends in a span that ends where this one begins, or it doesn't
  suffices H : ∃ y z a, pushY d x (f, t) = y ++ [(d, a, t)] ∧ x = y ++ z ∧ a ≤ f ∧ (∀ d' p, d' ≠ d ∨ p < f → (memS z d' p ↔ inS d' p (d, a, t))) ∧ okS (d, a, t) ∧ (∀ s ∈ y, spanR s (d, a, t)) by
    obtain ⟨y, z, a, e1, e2, ha, hz, hok, hr⟩ := H
    rw [e1]
    have hy : Canon y := ⟨fun s hs => h.can.1 s (by rw [e2]; exact List.mem_append_left _ hs), (List.pairwise_append.1 (e2 ▸ h.can.2)).1⟩
    have mA : ∀ d' p, memS (y ++ [(d, a, t)]) d' p ↔ memS y d' p ∨ inS d' p (d, a, t) := fun d' p => by
      constructor
      · rintro ⟨s, hs, g⟩
        rcases List.mem_append.1 hs with hs | hs
        · exact .inl ⟨s, hs, g⟩
        · rw [List.mem_singleton.1 hs] at g; exact .inr g
      · rintro (⟨s, hs, g⟩ | g)
        · exact ⟨s, List.mem_append_left _ hs, g⟩
        · exact ⟨_, List.mem_append_right _ (List.mem_singleton.2 rfl), g⟩
    have mX : ∀ d' p, memS x d' p ↔ memS y d' p ∨ memS z d' p := fun d' p => by
      rw [e2]
      constructor
      · rintro ⟨s, hs, g⟩
        rcases List.mem_append.1 hs with hs | hs
        · exact .inl ⟨s, hs, g⟩
        · exact .inr ⟨s, hs, g⟩
      · rintro (⟨s, hs, g⟩ | ⟨s, hs, g⟩)
        · exact ⟨s, List.mem_append_left _ hs, g⟩
        · exact ⟨s, List.mem_append_right _ hs, g⟩
    refine ⟨⟨fun s hs => ?_, List.pairwise_append.2 ⟨hy.2, by simp, fun s hs u hu => by rw [List.mem_singleton.1 hu]; exact hr s hs⟩⟩, fun s hs => ?_, fun d' p g1 g2 g3 g4 => ?_⟩
    · rcases List.mem_append.1 hs with hs | hs
      · exact hy.1 s hs
      · rw [List.mem_singleton.1 hs]; exact hok
    · rcases List.mem_append.1 hs with hs | hs
      · have := h.low s (by rw [e2]; exact List.mem_append_left _ hs); omega
      · rw [List.mem_singleton.1 hs]; exact .inr ⟨rfl, Int.le_refl _⟩
    · rw [mA]
      by_cases g : d' = d ∧ f ≤ p
      · obtain ⟨rfl, g⟩ := g
        constructor
        · intro _; exact (flat p g (by omega)).2 hDf
        · intro _; exact .inr ⟨rfl, by dsimp only; omega, by dsimp only; omega⟩
      · rw [← hz d' p (by omega), ← mX]
        exact h.is d' p g1 g2 g3 (by omega)
  by_cases hl : 0 < x.length ∧ (nthY x (x.length - 1)).1 = d ∧ (nthY x (x.length - 1)).2.2 = f
  · rw [pushY_set (s := (f, t)) hl]
    obtain ⟨y, z, rfl⟩ : ∃ y z, x = y ++ [z] := by
      have hne : x ≠ [] := fun e => by subst e; simp at hl
      exact ⟨x.dropLast, x.getLast hne, (List.dropLast_concat_getLast hne).symm⟩
    have en : nthY (y ++ [z]) ((y ++ [z]).length - 1) = z := by simp [nthY]
    rw [en] at hl ⊢
    obtain ⟨z1, z2, z3⟩ := z
    obtain ⟨_, hz1, hz3⟩ := hl
    dsimp only at hz1 hz3
    subst hz1 hz3
    have hok := h.can.1 (z1, z2, z3) (List.mem_append_right _ (List.mem_singleton.2 rfl))
    unfold okS at hok
    dsimp only at hok
    refine ⟨y, [(z1, z2, z3)], z2, by simp, rfl, by omega, fun d' p g => ?_, by unfold okS; dsimp only; omega, fun s hs => by have g := (List.pairwise_append.1 h.can.2).2.2 s hs (z1, z2, z3) (List.mem_singleton.2 rfl); exact g⟩
    constructor
    · rintro ⟨s, hs, g1, g2, g3⟩
      rw [List.mem_singleton.1 hs] at g1 g2 g3
      dsimp only at g1 g2 g3
      exact ⟨g1, g2, by dsimp only; omega⟩
    · rintro ⟨g1, g2, g3⟩
      dsimp only at g1 g2 g3
      exact ⟨_, List.mem_singleton.2 rfl, g1, g2, by dsimp only; omega⟩
  · rw [pushY_app (s := (f, t)) hl]
    refine ⟨x, [], f, rfl, by simp, Int.le_refl _, fun d' p g => ?_, ⟨hd, hf, hft, ht⟩, fun s hs => ?_⟩
    · constructor
      · rintro ⟨s, hs, _⟩; cases hs
      · rintro ⟨g1, g2, g3⟩
        dsimp only at g1 g2 g3
        omega
    · have hlow := h.low s hs
      unfold spanR
      dsimp only
      rcases hlow with g | ⟨g1, g2⟩
      · exact .inl g
      · refine .inr ⟨g1, ?_⟩
        rcases Int.lt_or_eq_of_le g2 with g | g
        · exact g
        · exfalso
          -- s ends at f and is of the device: it is the last
          have hne : x ≠ [] := fun e => by subst e; cases hs
          obtain ⟨y, z, rfl⟩ : ∃ y z, x = y ++ [z] := ⟨x.dropLast, x.getLast hne, (List.dropLast_concat_getLast hne).symm⟩
          have en : nthY (y ++ [z]) ((y ++ [z]).length - 1) = z := by simp [nthY]
          rw [en] at hl
          have hzl := h.low z (List.mem_append_right _ (List.mem_singleton.2 rfl))
          rcases List.mem_append.1 hs with hs | hs
          · have hr := (List.pairwise_append.1 h.can.2).2.2 s hs z (List.mem_singleton.2 rfl)
            have hzo := h.can.1 z (List.mem_append_right _ (List.mem_singleton.2 rfl))
            unfold spanR at hr
            unfold okS at hzo
            omega
          · rw [List.mem_singleton.1 hs] at g1 g
            exact hl ⟨by simp, g1, g⟩
theorem Inv.fold {l : List Rt} {bef aft d : Int} (hd : 0 ≤ d ∧ d ≤ 15) : ∀ (S : List (Int × Int)) {f b : Int} {x : List Yt}, Link f S b → (∀ s ∈ S, clear l d s) → 0 ≤ f → b ≤ 1099511627777 → Inv l bef aft d f x → Inv l bef aft d b (S.foldl (stepY l bef aft d) x)
  | [], f, b, x, hl, _, _, _, h => by cases hl; exact h
  | (a, t) :: S, f, b, x, hl, hc, hf, hb, h => by
    obtain ⟨rfl, h2, h3⟩ := hl
    have := link_le h3
    exact Inv.fold hd S h3 (fun s hs => hc s (List.mem_cons_of_mem _ hs)) (by dsimp only at *; omega) hb (h.step hd hf h2 (by dsimp only at *; omega) (hc _ (List.mem_cons_self ..)))
theorem chTo_inv {l : List Rt} (h : okTo l l.length) (bef aft : Int) : ∀ k : Nat, k ≤ 16 → Inv l bef aft k 0 (chTo l bef aft k)
  | 0, _ => ⟨⟨fun s hs => (by cases hs), List.Pairwise.nil⟩, fun s hs => (by cases hs), fun d' p g1 g2 g3 g4 => by omega⟩
  | k + 1, hk => by
    have ih := chTo_inv h bef aft k (by omega)
    obtain ⟨s1, s2⟩ := strs_spec h (k : Int)
    have := Inv.fold (bef := bef) (aft := aft) (d := (k : Int)) ⟨by omega, by omega⟩ (strs l k) s1 s2 (Int.le_refl _) (Int.le_refl _) ih
    refine ⟨this.can, fun s hs => ?_, fun d' p g1 g2 g3 g4 => this.is d' p g1 g2 g3 (by omega)⟩
    have := this.low s hs
    exact .inl (by omega)
/-- The spans: in order, as long as possible; a position is in one exactly if the results differ there. -/
theorem chTo_spec {l : List Rt} (h : okTo l l.length) (bef aft : Int) : Canon (chTo l bef aft 16) ∧ ∀ d p, 0 ≤ d → d ≤ 15 → 0 ≤ p → p < 1099511627777 → (memS (chTo l bef aft 16) d p ↔ Dif l bef aft d p) :=
  ⟨(chTo_inv h bef aft 16 (Nat.le_refl _)).can, fun d p g1 g2 g3 g4 => (chTo_inv h bef aft 16 (Nat.le_refl _)).is d p g1 g3 g4 (.inl (by omega))⟩
theorem memS_in {x : List Yt} (h : Canon x) {d p : Int} (hm : memS x d p) : (0 ≤ d ∧ d ≤ 15) ∧ 0 ≤ p ∧ p < 1099511627777 := by
  obtain ⟨s, hs, g1, g2, g3⟩ := hm
  have := h.1 s hs
  unfold okS at this
  omega
/-- Two lists of records whose results differ at the same places have the same spans. -/
theorem chTo_same {l l' : List Rt} (h : okTo l l.length) (h' : okTo l' l'.length) {bef aft bef' aft' : Int} (hD : ∀ d p, Dif l bef aft d p ↔ Dif l' bef' aft' d p) : chTo l bef aft 16 = chTo l' bef' aft' 16 := by
  obtain ⟨a1, a2⟩ := chTo_spec h bef aft
  obtain ⟨b1, b2⟩ := chTo_spec h' bef' aft'
  refine canon_uniq _ _ a1 b1 fun d p => ?_
  constructor
  · intro hm
    obtain ⟨g1, g2, g3⟩ := memS_in a1 hm
    exact (b2 d p g1.1 g1.2 g2 g3).2 ((hD d p).1 ((a2 d p g1.1 g1.2 g2 g3).1 hm))
  · intro hm
    obtain ⟨g1, g2, g3⟩ := memS_in b1 hm
    exact (a2 d p g1.1 g1.2 g2 g3).2 ((hD d p).2 ((b2 d p g1.1 g1.2 g2 g3).1 hm))
end Go.Proofs.Ytjedpemjifcciaa
