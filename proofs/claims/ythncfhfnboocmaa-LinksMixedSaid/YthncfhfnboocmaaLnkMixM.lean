/- Links: the order of the links (layer 13): mathematics alone. -/
import Derived.Test.YthncfhfnboocmaaLnkVM
namespace Go.Proofs.Ythncfhfnboocmaa

theorem nthJ_mem {l : List Jt} {i : Nat} (h : i < l.length) : nthJ l i ∈ l := by
  unfold nthJ
  rw [List.getD_eq_getElem?_getD, List.getElem?_eq_getElem h]
  exact List.getElem_mem h
theorem mem_nthJ {l : List Jt} {x : Jt} (h : x ∈ l) : ∃ i, i < l.length ∧ nthJ l i = x := by
  obtain ⟨i, hi, e⟩ := List.mem_iff_getElem.1 h
  exact ⟨i, hi, by unfold nthJ; rw [List.getD_eq_getElem?_getD, List.getElem?_eq_getElem hi, e]; rfl⟩
theorem okJs_perm {n : Int} {l l' : List Jt} (h : l.Perm l') (ho : okJs n l l.length) : okJs n l' l'.length := fun i hi => by
  obtain ⟨k, hk, e⟩ := mem_nthJ (h.symm.subset (nthJ_mem hi))
  rw [← e]; exact ho k hk
theorem apart_nodup {l : List Jt} : apart l l.length ↔ (l.map (·.2.1)).Nodup := by
  have hn : ∀ i, i < l.length → (l.map (·.2.1))[i]? = some (nthJ l i).2.1 := fun i hi => by
    unfold nthJ
    rw [List.getD_eq_getElem?_getD, List.getElem?_map, List.getElem?_eq_getElem hi]; rfl
  constructor
  · intro h
    rw [List.nodup_iff_pairwise_ne, List.pairwise_iff_getElem]
    intro i j hi hj hij e
    rw [List.length_map] at hi hj
    have h1 := hn i hi
    have h2 := hn j hj
    rw [List.getElem?_eq_getElem (by rw [List.length_map]; exact hi)] at h1
    rw [List.getElem?_eq_getElem (by rw [List.length_map]; exact hj)] at h2
    rw [e, h2] at h1
    exact h i j hij hj (by injection h1 with h1; exact h1.symm)
  · intro h i j hij hj e
    rw [List.nodup_iff_pairwise_ne, List.pairwise_iff_getElem] at h
    have h1 := hn i (by omega)
    have h2 := hn j hj
    rw [List.getElem?_eq_getElem (by rw [List.length_map]; omega)] at h1
    rw [List.getElem?_eq_getElem (by rw [List.length_map]; exact hj)] at h2
    injection h1 with h1
    injection h2 with h2
    exact h i j (by rw [List.length_map]; omega) (by rw [List.length_map]; exact hj) hij (by rw [h1, h2, e])
theorem apart_perm {l l' : List Jt} (h : l.Perm l') (ha : apart l l.length) : apart l' l'.length := by
  rw [apart_nodup] at ha ⊢
  exact (h.map (·.2.1)).nodup_iff.1 ha
/-- The link that leads to p, if there is one. -/
theorem src_perm {l l' : List Jt} (h : l.Perm l') (ha : apart l l.length) (p : Int) : (srcN l p l.length = 0 ∧ srcN l' p l'.length = 0) ∨ (srcN l p l.length ≠ 0 ∧ srcN l' p l'.length ≠ 0 ∧ nthJ l (srcN l p l.length - 1) = nthJ l' (srcN l' p l'.length - 1)) := by
  have ha' := apart_perm h ha
  have h0 : ∀ {a b : List Jt}, a.Perm b → apart b b.length → srcN a p a.length ≠ 0 → srcN b p b.length ≠ 0 ∧ nthJ a (srcN a p a.length - 1) = nthJ b (srcN b p b.length - 1) := fun {a b} hp hb hne => by
    have h1 := srcN_le a p a.length
    obtain ⟨k, hk, e⟩ := mem_nthJ (hp.subset (nthJ_mem (show srcN a p a.length - 1 < a.length by omega)))
    have e2 := srcN_to a.length (l := a) (p := p) (by omega)
    rw [← e] at e2
    have e3 := srcN_is hb hk e2
    exact ⟨by omega, by rw [e3, Nat.add_sub_cancel, e]⟩
  by_cases e : srcN l p l.length = 0
  · by_cases e' : srcN l' p l'.length = 0
    · exact .inl ⟨e, e'⟩
    · exact absurd e (h0 h.symm ha e').1
  · obtain ⟨a, b⟩ := h0 h ha' e
    exact .inr ⟨e, a, b⟩
theorem bk_perm {l l' : List Jt} (h : l.Perm l') (ha : apart l l.length) : bk l = bk l' := by
  funext p
  unfold bk
  rcases src_perm h ha p with ⟨a, b⟩ | ⟨a, b, c⟩
  · rw [if_pos a, if_pos b]
  · rw [if_neg a, if_neg b, c]
theorem bks_perm {l l' : List Jt} (h : l.Perm l') (ha : apart l l.length) : ∀ k o, bks l k o = bks l' k o := by
  intro k
  induction k with
  | zero => intro o; rfl
  | succ k ih => intro o; rw [bks_succ, bks_succ, ih, bk_perm h ha]
theorem ends_perm {n : Int} {l l' : List Jt} (hn : 0 ≤ n) (h : l.Perm l') (ho : okJs n l l.length) (ha : apart l l.length) (he : ends1 l) : ends1 l' := by
  rw [ends_iff ho ha hn] at he
  rw [ends_iff (okJs_perm h ho) (apart_perm h ha) hn]
  intro p h0 h1
  rw [← bks_perm h ha]; exact he p h0 h1
theorem chk_perm {m : Int} {l l' : List Jt} (h : l.Perm l') : chkL m l = chkL m l' := by
  have hlen := h.length_eq
  by_cases a : 0 ≤ m ∧ m ≤ 256
  · by_cases b : 256 < l.length
    · rw [chkL_limit a b, chkL_limit a (by omega)]
    · by_cases c : okJs m l l.length ∧ apart l l.length
      · have c' : okJs m l' l'.length ∧ apart l' l'.length := ⟨okJs_perm h c.1, apart_perm h c.2⟩
        by_cases d : ends1 l
        · rw [chkL_ok a b c d, chkL_ok a (by omega) c' (ends_perm a.1 h c.1 c.2 d)]
        · rw [chkL_circ a b c d, chkL_circ a (by omega) c' (fun g => d (ends_perm a.1 h.symm c'.1 c'.2 g))]
      · rw [chkL_link a b c, chkL_link a (by omega) (fun g => c ⟨okJs_perm h.symm g.1, apart_perm h.symm g.2⟩)]
  · rw [chkL_arg a, chkL_arg a]
theorem nxt_perm {m : Nat} {l l' : List Jt} (h : l.Perm l') (ha : apart l l.length) (lst : List Int) : nxtL m l lst = nxtL m l' lst := by
  have e : ∀ p, rdy l lst p ↔ rdy l' lst p := fun p => by unfold rdy; rw [bk_perm h ha]
  by_cases hx : ∃ p : Nat, p < m ∧ rdy l lst p ∧ ∀ q : Nat, q < p → ¬ rdy l lst q
  · obtain ⟨p, h1, h2, h3⟩ := hx
    rw [nxtL_is h1 h2 h3, nxtL_is h1 ((e _).1 h2) (fun q hq g => h3 q hq ((e _).2 g))]
  · unfold nxtL
    rw [dif_neg hx, dif_neg]
    rintro ⟨p, h1, h2, h3⟩
    exact hx ⟨p, h1, (e _).2 h2, fun q hq g => h3 q hq ((e _).1 g)⟩
theorem ord_perm {m : Nat} {l l' : List Jt} (h : l.Perm l') (ha : apart l l.length) : ∀ k, ordL m l k = ordL m l' k := by
  intro k
  induction k with
  | zero => rfl
  | succ k ih => rw [ordL_succ, ordL_succ, ih, nxt_perm h ha]
theorem order_perm {m : Int} {l l' : List Jt} (h : l.Perm l') : orderL m l = orderL m l' := by
  unfold orderL
  rw [chk_perm h]
  by_cases c : chkL m l' = 0
  · rw [if_pos c, if_pos c]
    rw [← chk_perm h] at c
    exact ord_perm h (chkL_inv c).2.2.1.2 _
  · rw [if_neg c, if_neg c]
/-- Values that differ at targets alone. -/
def near (l : List Jt) (vs vs' : List Int) : Prop := vs'.length = vs.length ∧ ∀ p : Nat, p < vs.length → (∀ i, i < l.length → (nthJ l i).2.1 ≠ (p : Int)) → vs'.getD p 0 = vs.getD p 0
theorem val_perm {l l' : List Jt} {vs vs' : List Int} (h : l.Perm l') (hn : near l vs vs') : valL l vs = valL l' vs' := by
  unfold valL
  rw [hn.1, chk_perm h]
  by_cases c : chkL (vs.length : Int) l' = 0
  case neg => rw [if_neg c, if_neg c]
  rw [if_pos c, if_pos c]
  rw [← chk_perm h] at c
  have hg := good_of c
  have key : ∀ k, k ≤ vs.length → valK l vs k = valK l' vs' k := by
    intro k
    induction k with
    | zero => intro _; rw [valK_zero, valK_zero, hn.1]
    | succ k ih =>
      intro hk
      have ea : atO vs'.length l' k = atO vs.length l k := by
        unfold atO
        rw [hn.1, ← ord_perm h hg.ap, ← nxt_perm h hg.ap]
      rw [valK_next, valK_next, ← ih (by omega), ea]
      have hp := hg.at_lt (k := k) (by omega)
      congr 1
      unfold sv
      rcases src_perm h hg.ap (atO vs.length l k : Int) with ⟨a, b⟩ | ⟨a, b, c⟩
      · rw [if_pos a, if_pos b, Int.toNat_natCast, hn.2 _ hp (srcN_no _ a)]
      · rw [if_neg a, if_neg b, c]
  exact key _ (Nat.le_refl _)
theorem set_perm {l : List Jt} {i j : Nat} (hi : i < l.length) (hj : j < l.length) : l.Perm ((l.set i (nthJ l j)).set j (nthJ l i)) := by
  have e : ∀ {k}, (h : k < l.length) → nthJ l k = l[k] := fun {k} h => by unfold nthJ; rw [List.getD_eq_getElem?_getD, List.getElem?_eq_getElem h]; rfl
  rw [e hi, e hj]
  exact (List.set_set_perm hi hj).symm
end Go.Proofs.Ythncfhfnboocmaa
