/- A list that is sorted is the only one (layer 42). Pure. -/
import Derived.Test.YtjedpemjifcciaaCalInP
namespace Go.Proofs.Ytjedpemjifcciaa
open Go.ChangeShapes Go.WideShapes Go.ChangeAt Go.RowKit Go.Sort Go.Shelf

def Good (l : List Rt) : Prop := (∀ m ∈ l, okR m) ∧ (l.map ky).Nodup
theorem good_perm {l l' : List Rt} (h : l.Perm l') (g : Good l) : Good l' := ⟨fun m hm => g.1 m (h.mem_iff.2 hm), (h.map ky).nodup_iff.1 g.2⟩
theorem good_iff {l l' : List Rt} (h : l.Perm l') : Good l ↔ Good l' := ⟨good_perm h, good_perm h.symm⟩
def Srt (x : List Rt) : Prop := x.Pairwise fun a b => ltK (ky a) (ky b)
theorem nthR_get {l : List Rt} {j : Nat} (h : j < l.length) : nthR l j = l[j] := by
  unfold nthR
  rw [List.getD_eq_getElem?_getD, List.getElem?_eq_getElem h]
  rfl
theorem nthR_mem {l : List Rt} {j : Nat} (h : j < l.length) : nthR l j ∈ l := by rw [nthR_get h]; exact List.getElem_mem h
theorem recs_srt {x : List Rt} (h : okTo x x.length) : Srt x := List.pairwise_iff_getElem.2 fun i j hi hj hij => by
  have := recs_lt h hij hj
  rwa [nthR_get hi, nthR_get hj] at this
theorem recs_good {x : List Rt} (h : Recs x) : Good x := by
  refine ⟨fun m hm => ?_, ?_⟩
  · obtain ⟨j, hj, rfl⟩ := List.mem_iff_getElem.1 hm
    rw [← nthR_get hj]
    exact (h.2 j hj).1
  · exact List.pairwise_map.2 ((recs_srt h.2).imp fun g e => by rw [e] at g; exact ltK_irr g)
theorem srt_uniq : ∀ (x y : List Rt), Srt x → Srt y → x.Perm y → x = y
  | [], y, _, _, h => h.nil_eq
  | a :: r, [], _, _, h => absurd h.eq_nil (by simp)
  | a :: r, b :: q, hx, hy, h => by
    have hx' := List.pairwise_cons.1 hx
    have hy' := List.pairwise_cons.1 hy
    have e : a = b := by
      have h1 : a ∈ b :: q := h.mem_iff.1 (List.mem_cons_self ..)
      have h2 : b ∈ a :: r := h.mem_iff.2 (List.mem_cons_self ..)
      rcases List.mem_cons.1 h1 with h1 | h1
      · exact h1
      rcases List.mem_cons.1 h2 with h2 | h2
      · exact h2.symm
      exact absurd (ltK_trans (hy'.1 a h1) (hx'.1 b h2)) ltK_irr
    subst e
    rw [srt_uniq r q hx'.2 hy'.2 h.cons_inv]
theorem take_one {l : List Rt} {k : Nat} (h : k < l.length) : l.take (k + 1) = l.take k ++ [nthR l k] := by
  rw [nthR_get h, List.take_add_one, List.getElem?_eq_getElem h]
  rfl
theorem ins_perm (x : List Rt) (r : Rt) (i : Nat) : (insR x r i).Perm (r :: x) := by
  unfold insR
  rw [List.append_assoc, List.singleton_append]
  exact List.perm_middle.trans (by rw [List.take_append_drop])
theorem add_good {l x : List Rt} {k i : Nat} (hR : Recs x) (hp : x.Perm (l.take k)) (hk : k < l.length) (hP : Pos x (ky (nthR l k)) i) (h : addC x (nthR l k) i = 0) : Recs (insR x (nthR l k) i) ∧ (insR x (nthR l k) i).Perm (l.take (k + 1)) := by
  obtain ⟨h1, h2, h3⟩ := addC_zero hR h
  refine ⟨ins_recs hR hP h1 h2 h3, (ins_perm _ _ _).trans ?_⟩
  rw [take_one hk]
  exact (hp.cons _).trans (List.perm_append_singleton _ _).symm
theorem add_bad {l x : List Rt} {k i : Nat} (hR : Recs x) (hp : x.Perm (l.take k)) (hk : k < l.length) (hl : l.length ≤ 40) (h : addC x (nthR l k) i ≠ 0) : ¬ Good l := fun g => by
  have ho : okR (nthR l k) := g.1 _ (nthR_mem hk)
  have hx : x.length = k := by rw [hp.length_eq, List.length_take]; omega
  cases hh : hasK x (ky (nthR l k)) i
  · exact h (addC_ok hR hh ho (by omega))
  · have hh' : i < x.length ∧ ky (nthR x i) = ky (nthR l k) := by
      unfold hasK at hh
      exact of_decide_eq_true hh
    obtain ⟨hi, he⟩ := hh'
    have hm : nthR x i ∈ l.take k := hp.mem_iff.1 (nthR_mem hi)
    obtain ⟨j, hj, e⟩ := List.mem_iff_getElem.1 hm
    rw [List.length_take] at hj
    rw [List.getElem_take] at e
    have hn := List.pairwise_iff_getElem.1 (List.pairwise_map.1 g.2) j k (by omega) hk (by omega)
    rw [e, ← nthR_get hk] at hn
    exact hn he
theorem add_all {l x y : List Rt} (h1 : Recs x) (h2 : x.Perm l) (h3 : Recs y) (h4 : y.Perm l) : x = y := srt_uniq x y (recs_srt h1.2) (recs_srt h3.2) (h2.trans h4.symm)
theorem swap_perm {l : List Rt} {i j : Nat} (hi : i < l.length) (hj : j < l.length) : l.Perm ((l.set i (nthR l j)).set j (nthR l i)) := by
  rw [nthR_get hi, nthR_get hj]
  exact (List.set_set_perm hi hj).symm
end Go.Proofs.Ytjedpemjifcciaa
