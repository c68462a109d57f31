/- Links: what the values are (layer 13): mathematics alone. -/
import Derived.Test.YthncfhfnboocmaaLnkLawM
namespace Go.Proofs.Ythncfhfnboocmaa

/-- The value that one step sets. -/
def sv (l : List Jt) (vs x : List Int) (p : Int) : Int :=
  if srcN l p l.length = 0 then clip (vs.getD p.toNat 0) else clip (x.getD (nthJ l (srcN l p l.length - 1)).1.toNat 0 * (nthJ l (srcN l p l.length - 1)).2.2.1 / (nthJ l (srcN l p l.length - 1)).2.2.2.1 + (nthJ l (srcN l p l.length - 1)).2.2.2.2)
theorem valK_next (l : List Jt) (vs : List Int) (k : Nat) : valK l vs (k + 1) = (valK l vs k).set (atO vs.length l k) (sv l vs (valK l vs k) (atO vs.length l k : Int)) := by
  rw [valK_succ]
  unfold stepL sv atO
  rw [Int.toNat_natCast]
theorem getD_set_ne {l : List Int} {i j : Nat} {x : Int} (h : i ≠ j) : (l.set i x).getD j 0 = l.getD j 0 := by
  simp [List.getD_eq_getElem?_getD, h]
theorem getD_set_eq {l : List Int} {i : Nat} {x : Int} (h : i < l.length) : (l.set i x).getD i 0 = x := by
  simp [List.getD_eq_getElem?_getD, h]
/-- What was set remains. -/
theorem val_set_at {l : List Jt} {vs : List Int} (h : Good vs.length l) {j : Nat} : ∀ n, j < n → n ≤ vs.length → (valK l vs n).getD (atO vs.length l j) 0 = sv l vs (valK l vs j) (atO vs.length l j : Int) := by
  intro n
  induction n with
  | zero => intro h; omega
  | succ n ih =>
    intro h1 h2
    rw [valK_next]
    by_cases e : j = n
    · subst e
      exact getD_set_eq (by rw [valK_len]; exact h.at_lt (by omega))
    · rw [getD_set_ne (fun x => h.at_ne (j := j) (k := n) (by omega) (by omega) x.symm)]
      exact ih (by omega) (by omega)
theorem val_same {l : List Jt} {vs : List Int} (h : Good vs.length l) {j n : Nat} (h1 : j < n) (h2 : n ≤ vs.length) : (valK l vs n).getD (atO vs.length l j) 0 = (valK l vs vs.length).getD (atO vs.length l j) 0 := by
  rw [val_set_at h n h1 h2, val_set_at h vs.length (by omega) (Nat.le_refl _)]
/-- What leads nowhere has its own value, clipped. -/
theorem val_own {l : List Jt} {vs : List Int} (h : Good vs.length l) {p : Nat} (hp : p < vs.length) (hs : srcN l (p : Int) l.length = 0) : (valK l vs vs.length).getD p 0 = clip (vs.getD p 0) := by
  obtain ⟨k, hk, e⟩ := h.all hp
  have := val_set_at h (j := k) vs.length hk (Nat.le_refl _)
  rw [e] at this
  rw [this]
  unfold sv
  rw [if_pos hs, Int.toNat_natCast]
/-- A target has the value that its link determines. -/
theorem val_link {l : List Jt} {vs : List Int} (h : Good vs.length l) {i : Nat} (hi : i < l.length) : (valK l vs vs.length).getD (nthJ l i).2.1.toNat 0 = clip ((valK l vs vs.length).getD (nthJ l i).1.toNat 0 * (nthJ l i).2.2.1 / (nthJ l i).2.2.2.1 + (nthJ l i).2.2.2.2) := by
  have ho := h.ok i hi
  obtain ⟨k, hk, e⟩ := h.all (p := (nthJ l i).2.1.toNat) (by have := ho.2.2.1; omega)
  have et : (atO vs.length l k : Int) = (nthJ l i).2.1 := by rw [e]; have := ho.2.2.1; omega
  obtain ⟨j, hj, e2⟩ := h.before hi hk et
  have hv := val_set_at h (j := k) vs.length hk (Nat.le_refl _)
  have hs : srcN l (nthJ l i).2.1 l.length = i + 1 := srcN_is h.ap hi rfl
  rw [← e, hv]
  unfold sv
  rw [et, hs, if_neg (by omega), Nat.add_sub_cancel, show (nthJ l i).1.toNat = atO vs.length l j by omega, val_same h hj (by omega)]
end Go.Proofs.Ythncfhfnboocmaa
