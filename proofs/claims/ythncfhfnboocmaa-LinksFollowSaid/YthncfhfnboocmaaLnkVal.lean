/- The values as a fold along the order (layer 13). -/
import Derived.Test.YthncfhfnboocmaaLnkLeaf
import Derived.Test.YthncfhfnboocmaaLnkOrd
namespace Go.Proofs.Ythncfhfnboocmaa
open Go.ChangeShapes Go.WideShapes Go.ChangeAt Go.RowKit

def stepL (l : List Jt) (vs : List Int) (x : List Int) (p : Int) : List Int :=
  x.set p.toNat (if srcN l p l.length = 0 then clip (vs.getD p.toNat 0) else clip (x.getD (nthJ l (srcN l p l.length - 1)).1.toNat 0 * (nthJ l (srcN l p l.length - 1)).2.2.1 / (nthJ l (srcN l p l.length - 1)).2.2.2.1 + (nthJ l (srcN l p l.length - 1)).2.2.2.2))
/-- The values behind the first k parameters of the order. -/
noncomputable def valK (l : List Jt) (vs : List Int) (k : Nat) : List Int := (ordL vs.length l k).foldl (stepL l vs) (List.replicate vs.length 0)
noncomputable def valL (l : List Jt) (vs : List Int) : List Int := if chkL (vs.length : Int) l = 0 then valK l vs vs.length else []
theorem valK_zero (l : List Jt) (vs : List Int) : valK l vs 0 = List.replicate vs.length 0 := rfl
theorem valK_succ (l : List Jt) (vs : List Int) (k : Nat) : valK l vs (k + 1) = stepL l vs (valK l vs k) (nxtL vs.length l (ordL vs.length l k) : Int) := by
  unfold valK
  rw [show ordL vs.length l (k + 1) = ordL vs.length l k ++ [(nxtL vs.length l (ordL vs.length l k) : Int)] from rfl, List.foldl_append]
  rfl
theorem valK_len (l : List Jt) (vs : List Int) : ∀ k, (valK l vs k).length = vs.length := by
  intro k
  induction k with
  | zero => rw [valK_zero]; simp
  | succ k ih => rw [valK_succ]; unfold stepL; rw [List.length_set, ih]
theorem valK_in (l : List Jt) (vs : List Int) : ∀ k i, -2147483648 ≤ (valK l vs k).getD i 0 ∧ (valK l vs k).getD i 0 ≤ 2147483647 := by
  intro k
  induction k with
  | zero =>
    intro i
    rw [valK_zero]
    by_cases h : i < vs.length
    · simp [List.getD_eq_getElem?_getD, h]
    · simp [List.getD_eq_getElem?_getD, h]
  | succ k ih =>
    intro i
    rw [valK_succ]
    unfold stepL
    generalize (nxtL vs.length l (ordL vs.length l k) : Int).toNat = j
    by_cases hj : j = i ∧ j < (valK l vs k).length
    · obtain ⟨rfl, hlt⟩ := hj
      rw [List.getD_eq_getElem?_getD, List.getElem?_set_self hlt]
      show _ ≤ ite _ _ _ ∧ ite _ _ _ ≤ _
      split
      · exact ⟨clip_lo _, clip_hi _⟩
      · exact ⟨clip_lo _, clip_hi _⟩
    · by_cases e : j = i
      · rw [List.getD_eq_getElem?_getD, List.set_eq_of_length_le (by omega), ← List.getD_eq_getElem?_getD]
        exact ih i
      · rw [List.getD_eq_getElem?_getD, List.getElem?_set_ne e, ← List.getD_eq_getElem?_getD]
        exact ih i
theorem mul_in {x y : Int} (hx : -2147483648 ≤ x ∧ x ≤ 2147483647) (hy : -2147483647 ≤ y ∧ y ≤ 2147483647) : -4611686018427387904 ≤ x * y ∧ x * y ≤ 4611686018427387904 := by
  have h : (x * y).natAbs ≤ 2147483648 * 2147483648 := by
    rw [Int.natAbs_mul]
    exact Nat.mul_le_mul (by omega) (by omega)
  omega
/-- The k-th of the order. -/
theorem ordL_get (m : Nat) (l : List Jt) : ∀ k n, k < n → (ordL m l n).getD k 0 = (nxtL m l (ordL m l k) : Int) := by
  intro k n
  induction n with
  | zero => intro h; omega
  | succ n ih =>
    intro h
    show (ordL m l n ++ [(nxtL m l (ordL m l n) : Int)]).getD k 0 = _
    have hl := ordL_len m l n
    by_cases e : k = n
    · subst e
      simp [List.getD_eq_getElem?_getD, hl]
    · have hk : k < n := by omega
      rw [← ih hk]
      simp [List.getD_eq_getElem?_getD, List.getElem?_append, hl, hk]
end Go.Proofs.Ythncfhfnboocmaa
