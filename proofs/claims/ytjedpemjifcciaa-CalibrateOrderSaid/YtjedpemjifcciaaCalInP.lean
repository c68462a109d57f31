/- What a record that is added does to the results (layer 42). Pure. -/
import Derived.Test.YtjedpemjifcciaaCalSpan
namespace Go.Proofs.Ytjedpemjifcciaa
open Go.ChangeShapes Go.WideShapes Go.ChangeAt Go.RowKit Go.Sort Go.Shelf

theorem nthR_ins (l : List Rt) (r : Rt) {i : Nat} (hi : i ≤ l.length) (j : Nat) : nthR (insR l r i) j = if j < i then nthR l j else if j = i then r else nthR l (j - 1) := by
  unfold insR nthR
  simp only [List.getD_eq_getElem?_getD]
  by_cases h1 : j < i
  · rw [if_pos h1, List.getElem?_append_left (by simp; omega), List.getElem?_append_left (by simp; omega), List.getElem?_take_of_lt h1]
  rw [if_neg h1]
  by_cases h2 : j = i
  · subst h2
    rw [if_pos rfl, List.getElem?_append_left (by simp; omega), List.getElem?_append_right (by simp; omega)]
    simp [Nat.min_eq_left hi]
  · rw [if_neg h2, List.getElem?_append_right (by simp; omega), List.getElem?_drop]
    simp only [List.length_append, List.length_take, List.length_cons, List.length_nil, Nat.min_eq_left hi]
    congr 2
    omega
theorem ins_lo {l : List Rt} {r : Rt} {i j : Nat} (hi : i ≤ l.length) (h : j < i) : nthR (insR l r i) j = nthR l j := by rw [nthR_ins l r hi, if_pos h]
theorem ins_at {l : List Rt} {r : Rt} {i : Nat} (hi : i ≤ l.length) : nthR (insR l r i) i = r := by rw [nthR_ins l r hi, if_neg (by omega), if_pos rfl]
theorem ins_hi {l : List Rt} {r : Rt} {i j : Nat} (hi : i ≤ l.length) (h : i ≤ j) : nthR (insR l r i) (j + 1) = nthR l j := by rw [nthR_ins l r hi, if_neg (by omega), if_neg (by omega)]; rfl
theorem cnt_eq {l l' : List Rt} {d p k : Int} : ∀ (m : Nat), (∀ j, j < m → nthR l j = nthR l' j) → cnt l d p k m = cnt l' d p k m
  | 0, _ => rfl
  | m + 1, h => by
    have ih := cnt_eq (d := d) (p := p) (k := k) m fun j hj => h j (by omega)
    have e := h m (by omega)
    by_cases g : mat d p k (nthR l m)
    · rw [cnt_yes g, cnt_yes (e ▸ g), e]
    · rw [cnt_no g, cnt_no (e ▸ g), ih]
theorem cnt_ins_lo {l : List Rt} {r : Rt} {i : Nat} (hi : i ≤ l.length) {d p k : Int} : cnt (insR l r i) d p k i = cnt l d p k i := cnt_eq i fun _ hj => ins_lo hi hj
theorem cnt_ins_no {l : List Rt} {r : Rt} {i : Nat} (hi : i ≤ l.length) {d p k : Int} (hm : ¬ mat d p k r) : ∀ t, cnt (insR l r i) d p k (i + t + 1) = cnt l d p k (i + t)
  | 0 => by rw [show i + 0 = i from rfl, cnt_no (by rw [ins_at hi]; exact hm), cnt_ins_lo hi]
  | t + 1 => by
    have ih := cnt_ins_no hi hm t
    have e := ins_hi (r := r) hi (j := i + t) (by omega)
    rw [show i + (t + 1) + 1 = (i + t + 1) + 1 by omega, show i + (t + 1) = i + t + 1 by omega]
    by_cases g : mat d p k (nthR l (i + t))
    · rw [cnt_yes g, cnt_yes (n := i + t + 1) (by rw [e]; exact g), e]
    · rw [cnt_no g, cnt_no (n := i + t + 1) (by rw [e]; exact g), ih]
theorem cnt_ins_yes {l : List Rt} {r : Rt} {i : Nat} (hi : i ≤ l.length) {d p k : Int} (hm : mat d p k r) : ∀ t, (cnt (insR l r i) d p k (i + t + 1) = cnt l d p k (i + t) ∧ ∃ j, i ≤ j ∧ j < i + t ∧ mat d p k (nthR l j)) ∨ (cnt (insR l r i) d p k (i + t + 1) = (r.2.2.2.1, r.2.2.2.2, true) ∧ ∀ j, i ≤ j → j < i + t → ¬ mat d p k (nthR l j))
  | 0 => .inr ⟨by rw [Nat.add_zero, cnt_yes (by rw [ins_at hi]; exact hm), ins_at hi], fun j h1 h2 => by omega⟩
  | t + 1 => by
    have ih := cnt_ins_yes hi hm t
    have e := ins_hi (r := r) hi (j := i + t) (by omega)
    rw [show i + (t + 1) + 1 = (i + t + 1) + 1 by omega, show i + (t + 1) = i + t + 1 by omega]
    by_cases g : mat d p k (nthR l (i + t))
    · rw [cnt_yes g, cnt_yes (n := i + t + 1) (by rw [e]; exact g), e]
      exact .inl ⟨rfl, i + t, by omega, by omega, g⟩
    · rw [cnt_no g, cnt_no (n := i + t + 1) (by rw [e]; exact g)]
      rcases ih with ⟨h1, j, h2, h3, h4⟩ | ⟨h1, h2⟩
      · exact .inl ⟨h1, j, h2, by omega, h4⟩
      · refine .inr ⟨h1, fun j h3 h4 => ?_⟩
        by_cases e' : j = i + t
        · subst e'; exact g
        · exact h2 j h3 (by omega)
theorem cnt_true {l : List Rt} {d p k : Int} {j : Nat} (hm : mat d p k (nthR l j)) : ∀ (n : Nat), j < n → (cnt l d p k n).2.2 = true
  | 0, h => by omega
  | n + 1, h => by
    by_cases g : mat d p k (nthR l n)
    · rw [cnt_yes g]
    · rw [cnt_no g]
      exact cnt_true hm n (by
        by_cases e : j = n
        · subst e; exact absurd hm g
        · omega)
theorem addC_zero {l : List Rt} {r : Rt} {i : Nat} (hR : Recs l) (h : addC l r i = 0) : hasK l (ky r) i = false ∧ okR r ∧ l.length ≠ 256 := by
  by_cases h1 : hasK l (ky r) i = true ∨ ¬ okR r
  · rw [addC_bad hR h1] at h; cases h
  have hk : hasK l (ky r) i = false := by
    cases e : hasK l (ky r) i
    · rfl
    · exact absurd (.inl e) h1
  have ho : okR r := by
    by_cases g : okR r
    · exact g
    · exact absurd (.inr g) h1
  refine ⟨hk, ho, fun e => ?_⟩
  rw [addC_many hR hk ho e] at h; cases h
theorem pos_gt {l : List Rt} {r : Rt} {i j : Nat} (hok : okTo l l.length) (hp : Pos l (ky r) i) (hk : hasK l (ky r) i = false) (hij : i ≤ j) (hj : j < l.length) : ltK (ky r) (ky (nthR l j)) := by
  have hn := hp.2.2 j hij hj
  rcases ltK_tri (ky r) (ky (nthR l j)) with h | h | h
  · exact h
  · exfalso
    rcases Nat.eq_or_lt_of_le hij with e | e
    · subst e
      rw [hasK_t hj h.symm] at hk; cases hk
    · have := recs_lt hok e hj
      rw [← h] at this
      exact hp.2.2 i (Nat.le_refl _) (by omega) this
  · exact absurd h hn
theorem ins_recs {l : List Rt} {r : Rt} {i : Nat} (hR : Recs l) (hp : Pos l (ky r) i) (hk : hasK l (ky r) i = false) (ho : okR r) (h256 : l.length ≠ 256) : Recs (insR l r i) := by
  have hi := hp.1
  have hlen := insR_len l r i hi
  refine ⟨by rw [hlen]; have := hR.1; omega, fun j hj => ?_⟩
  rw [hlen] at hj
  rcases Nat.lt_trichotomy j i with g | g | g
  · rw [ins_lo hi g]
    refine ⟨(hR.2 j (by omega)).1, fun h0 => ?_⟩
    rw [ins_lo hi (by omega)]
    exact (hR.2 j (by omega)).2 h0
  · subst g
    rw [ins_at hi]
    refine ⟨ho, fun h0 => ?_⟩
    rw [ins_lo hi (by omega)]
    exact hp.2.1 _ (by omega)
  · obtain ⟨t, rfl⟩ : ∃ t, j = t + 1 := ⟨j - 1, by omega⟩
    rw [ins_hi hi (by omega)]
    refine ⟨(hR.2 t (by omega)).1, fun _ => ?_⟩
    rw [show t + 1 - 1 = t by omega]
    by_cases e : t = i
    · subst e
      rw [ins_at hi]
      exact pos_gt hR.2 hp hk (Nat.le_refl _) (by omega)
    · obtain ⟨u, rfl⟩ : ∃ u, t = u + 1 := ⟨t - 1, by omega⟩
      rw [ins_hi hi (by omega)]
      have := (hR.2 (u + 1) (by omega)).2 (by omega)
      rwa [show u + 1 - 1 = u by omega] at this
theorem cnt_add_no {l : List Rt} {r : Rt} {i : Nat} (hi : i ≤ l.length) {d p k : Int} (hm : ¬ mat d p k r) : cnt (insR l r i) d p k (insR l r i).length = cnt l d p k l.length := by
  have := cnt_ins_no hi hm (l.length - i)
  rw [insR_len l r i hi]
  rwa [show i + (l.length - i) = l.length by omega] at this
/-- Does a record count instead of the one that is added? -/
def later (r : Rt) (m : Rt) : Prop := r.2.1 < m.2.1 ∨ (m.2.1 = r.2.1 ∧ r.2.2.1 < m.2.2.1)
instance (r m : Rt) : Decidable (later r m) := by unfold later; infer_instance
def LaterTo (l : List Rt) (r : Rt) (d p k : Int) (n : Nat) : Prop := ∃ j, j < n ∧ mat d p k (nthR l j) ∧ later r (nthR l j)
theorem LaterTo.succ {l : List Rt} {r : Rt} {d p k : Int} {n : Nat} : LaterTo l r d p k (n + 1) ↔ LaterTo l r d p k n ∨ (mat d p k (nthR l n) ∧ later r (nthR l n)) := by
  constructor
  · rintro ⟨j, h1, h2⟩
    by_cases e : j = n
    · subst e; exact .inr h2
    · exact .inl ⟨j, by omega, h2⟩
  · rintro (⟨j, h1, h2⟩ | h)
    · exact ⟨j, by omega, h2⟩
    · exact ⟨n, by omega, h⟩
theorem cnt_add_yes {l : List Rt} {r : Rt} {i : Nat} (hR : Recs l) (hp : Pos l (ky r) i) (hk : hasK l (ky r) i = false) {d p k : Int} (hm : mat d p k r) :
    (LaterTo l r d p k l.length ∧ cnt (insR l r i) d p k (insR l r i).length = cnt l d p k l.length ∧ (cnt l d p k l.length).2.2 = true) ∨ (¬ LaterTo l r d p k l.length ∧ cnt (insR l r i) d p k (insR l r i).length = (r.2.2.2.1, r.2.2.2.2, true)) := by
  have hi := hp.1
  have := cnt_ins_yes hi hm (l.length - i)
  rw [insR_len l r i hi]
  rw [show i + (l.length - i) = l.length by omega] at this
  rcases this with ⟨h1, j, h2, h3, h4⟩ | ⟨h1, h2⟩
  · refine .inl ⟨⟨j, h3, h4, ?_⟩, h1, cnt_true h4 _ h3⟩
    have g := pos_gt hR.2 hp hk h2 h3
    unfold ltK ky at g
    unfold mat at hm h4
    unfold later
    dsimp only at g
    omega
  · refine .inr ⟨?_, h1⟩
    rintro ⟨j, g1, g2, g3⟩
    rcases Nat.lt_or_ge j i with g | g
    · have := hp.2.1 j g
      unfold ltK ky at this
      unfold mat at hm g2
      unfold later at g3
      dsimp only at this
      omega
    · exact h2 j g g1 g2
end Go.Proofs.Ytjedpemjifcciaa
