/- A knot matters between its neighbors only: the mathematics of CurvesLocal (layer 11). -/
import Derived.Test.YtafffmcmdhbghaaCrvLawB
import Derived.Test.YtafffmcmdhbghaaCrvLawF
namespace Go.Proofs.Ytafffmcmdhbghaa
open Go.ChangeShapes Go.WideShapes Go.ChangeAt Go.RowKit Go.Shelf

/-- x set into l: the first A knots, x, and the knots from R on. -/
def setL (l : List Kt) (x : Kt) (A R : Nat) : List Kt := l.take A ++ (x :: l.drop R)
theorem setL_len {l : List Kt} {x : Kt} {A R : Nat} (hA : A ≤ R) (hR : R ≤ l.length) : (setL l x A R).length = A + 1 + (l.length - R) := by
  unfold setL
  rw [List.length_append, List.length_take, List.length_cons, List.length_drop]
  omega
theorem setL_lo {l : List Kt} {x : Kt} {A R i : Nat} (hA : A ≤ l.length) (hi : i < A) : nthK (setL l x A R) i = nthK l i := by
  unfold setL nthK
  simp only [List.getD_eq_getElem?_getD]
  rw [List.getElem?_append_left (by simp; omega), List.getElem?_take_of_lt hi]
theorem setL_hi {l : List Kt} {x : Kt} {A R j : Nat} (hA : A ≤ l.length) (hj : R ≤ j) : nthK (setL l x A R) (A + 1 + (j - R)) = nthK l j := by
  unfold setL nthK
  simp only [List.getD_eq_getElem?_getD]
  rw [List.getElem?_append_right (by simp; omega), List.length_take, show A + 1 + (j - R) - min A l.length = (j - R) + 1 by omega, List.getElem?_cons_succ, List.getElem?_drop, show R + (j - R) = j by omega]
/-- Where a position lies. -/
theorem seat_of (f : Nat → Int) (at' : Int) (a : Nat) : ∀ b, a < b → f a ≤ at' → at' < f b → ∃ i, a ≤ i ∧ i < b ∧ f i ≤ at' ∧ at' < f (i + 1) := by
  intro b
  induction b with
  | zero => intro h; omega
  | succ b ih =>
    intro h h1 h2
    by_cases hb : f b ≤ at'
    · exact ⟨b, by omega, by omega, hb, h2⟩
    · by_cases e : a = b
      · subst e; exact absurd h1 hb
      · obtain ⟨i, g1, g2, g3, g4⟩ := ih (by omega) h1 (by omega)
        exact ⟨i, g1, by omega, g3, g4⟩
theorem vb2 {l : List Kt} (h : Curve l) {i : Nat} (hi : i + 1 < l.length) {p : Int} (h0 : (nthK l i).1 ≤ p) (h1 : p < (nthK l (i + 1)).1) : valC l p = segV (nthK l i) (nthK l (i + 1)) p := by
  have inc : ∀ j, i + 1 ≤ j → j < l.length → (nthK l (i + 1)).1 ≤ (nthK l j).1 := fun j hj1 hj2 => by
    by_cases e : j = i + 1
    · rw [e]; omega
    · have := incr2 h.1 j (i + 1) (by omega) hj2; omega
  have key : ∀ n, i < n → n ≤ l.length → cnt l p n = i + 1 := by
    intro n
    induction n with
    | zero => intro h; omega
    | succ n ih =>
      intro hn1 hn2
      unfold cnt
      by_cases e : n = i
      · subst e; rw [if_pos h0]
      · rw [if_neg (by have := inc n (by omega) (by omega); omega)]; exact ih (by omega) (by omega)
  unfold valC valP
  rw [key _ (by omega) (Nat.le_refl _), if_neg (by omega), if_neg (by omega), if_neg (by omega), Nat.add_sub_cancel]
theorem local_lo {l : List Kt} {x : Kt} {A R : Nat} (h : Curve l) (h' : Curve (setL l x A R)) (hA : A ≤ R) (hR : R ≤ l.length) (h0 : 0 < A) {at' : Int} (ha : at' ≤ (nthK l (A - 1)).1) : valC l at' = valC (setL l x A R) at' := by
  have hlen := setL_len (x := x) hA hR
  have lo : ∀ i, i < A → nthK (setL l x A R) i = nthK l i := fun i hi => setL_lo (by omega) hi
  by_cases q0 : at' ≤ (nthK l 0).1
  · rw [ends_first h (by omega) q0, ends_first h' (by omega) (by rw [lo 0 h0]; exact q0), lo 0 h0]
  by_cases q1 : at' = (nthK l (A - 1)).1
  · have e1 := at_knot h (p := A - 1) (by omega)
    have e2 := at_knot h' (p := A - 1) (by omega)
    rw [lo (A - 1) (by omega)] at e2
    rw [q1, e1, e2]
  have hA1 : 0 < A - 1 := by
    rcases Nat.eq_zero_or_pos (A - 1) with e | e
    · rw [e] at ha; omega
    · exact e
  obtain ⟨i, -, g2, g3, g4⟩ := seat_of (fun i => (nthK l i).1) at' 0 (A - 1) hA1 (by show (nthK l 0).1 ≤ at'; omega) (by show at' < (nthK l (A - 1)).1; omega)
  have e1 := vb2 h (i := i) (by omega) g3 g4
  have e2 := vb2 h' (i := i) (by omega) (by rw [lo i (by omega)]; exact g3) (by rw [lo (i + 1) (by omega)]; exact g4)
  rw [lo i (by omega), lo (i + 1) (by omega)] at e2
  rw [e1, e2]
theorem local_hi {l : List Kt} {x : Kt} {A R : Nat} (h : Curve l) (h' : Curve (setL l x A R)) (hA : A ≤ R) (hR : R < l.length) {at' : Int} (ha : (nthK l R).1 ≤ at') : valC l at' = valC (setL l x A R) at' := by
  have hlen := setL_len (x := x) hA (Nat.le_of_lt hR)
  have hi : ∀ j, R ≤ j → nthK (setL l x A R) (A + 1 + (j - R)) = nthK l j := fun j hj => setL_hi (by omega) hj
  by_cases q0 : (nthK l (l.length - 1)).1 ≤ at'
  · have e := hi (l.length - 1) (by omega)
    rw [show A + 1 + (l.length - 1 - R) = (setL l x A R).length - 1 by omega] at e
    rw [ends_last (by omega) q0, ends_last (by omega) (by rw [e]; exact q0), e]
  have hlt : R < l.length - 1 := by
    rcases Nat.lt_or_ge R (l.length - 1) with e | e
    · exact e
    · rw [show l.length - 1 = R by omega] at q0; omega
  obtain ⟨i, g1, g2, g3, g4⟩ := seat_of (fun i => (nthK l i).1) at' R (l.length - 1) hlt ha (by show at' < (nthK l (l.length - 1)).1; omega)
  have e1 := vb2 h (i := i) (by omega) g3 g4
  have a1 := hi i g1
  have a2 := hi (i + 1) (by omega)
  rw [show A + 1 + (i + 1 - R) = A + 1 + (i - R) + 1 by omega] at a2
  have e2 := vb2 h' (i := A + 1 + (i - R)) (by omega) (by rw [a1]; exact g3) (by rw [a2]; exact g4)
  rw [a1, a2] at e2
  rw [e1, e2]
end Go.Proofs.Ytafffmcmdhbghaa
