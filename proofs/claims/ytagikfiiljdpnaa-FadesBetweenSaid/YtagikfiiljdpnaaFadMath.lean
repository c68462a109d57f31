/- Fades backwards (layer 27). -/
import Derived.Test.YtagikfiiljdpnaaFadLawA
namespace Go.Proofs.Ytagikfiiljdpnaa

theorem fdI_get (l : List Int) (n k q : Nat) : (fdL l n (fun i => i) k)[q]? = (l[q]?).map fun x => if q < k then gmul x (gainV q n) else x := by
  induction k with
  | zero => simp [fdL]
  | succ k ih =>
    unfold fdL
    by_cases hq : k = q
    · subst hq
      by_cases hl : k < l.length
      · rw [List.getElem?_set_self (by rw [fdL_len]; exact hl), List.getElem?_eq_getElem hl, Option.map_some, if_pos (by omega)]
        simp [List.getD_eq_getElem?_getD, hl]
      · rw [List.getElem?_eq_none (by simp [fdL_len]; omega), List.getElem?_eq_none (by omega)]
        rfl
    · rw [List.getElem?_set_ne hq, ih]
      congr 1
      funext x
      by_cases h : q < k
      · rw [if_pos h, if_pos (by omega)]
      · rw [if_neg h, if_neg (by omega)]
theorem fdO_get (l : List Int) (n k q : Nat) (hk : k ≤ l.length) (hq : q < l.length) : (fdL l n (fun i => l.length - 1 - i) k)[q]? = (l[q]?).map fun x => if l.length - 1 - q < k then gmul x (gainV ((l.length - 1 - q : Nat) : Int) n) else x := by
  induction k with
  | zero => simp [fdL]
  | succ k ih =>
    unfold fdL
    by_cases h1 : l.length - 1 - k = q
    · subst h1
      rw [List.getElem?_set_self (by rw [fdL_len]; exact hq), List.getElem?_eq_getElem hq, Option.map_some, if_pos (by omega)]
      rw [show l.length - 1 - (l.length - 1 - k) = k by omega]
      simp [List.getD_eq_getElem?_getD, hq]
    · rw [List.getElem?_set_ne h1, ih (by omega)]
      congr 1
      funext x
      by_cases h : l.length - 1 - q < k
      · rw [if_pos h, if_pos (by omega)]
      · rw [if_neg h, if_neg (by omega)]
theorem fdL_back (l : List Int) (n k : Nat) (hk : k ≤ l.length) : fdL l n (fun i => l.length - 1 - i) k = (fdL l.reverse n (fun i => i) k).reverse := by
  apply List.ext_getElem?
  intro q
  by_cases hq : q < l.length
  · rw [fdO_get l n k q hk hq, List.getElem?_reverse (by rw [fdL_len, List.length_reverse]; exact hq), fdI_get, fdL_len, List.length_reverse, List.getElem?_reverse (by omega)]
    rw [show l.length - 1 - (l.length - 1 - q) = q by omega]
  · rw [List.getElem?_eq_none (by rw [fdL_len]; omega), List.getElem?_eq_none (by rw [List.length_reverse, fdL_len, List.length_reverse]; omega)]
theorem outR_back (l : List Int) (len : Nat) (n : Int) (hl : l.length = len) : outR l len n = (inR l.reverse len n).reverse := by
  unfold outR inR
  by_cases h : FOk len n
  · rw [if_pos h, if_pos h]
    obtain ⟨_, _, h3⟩ := h
    subst hl
    exact fdL_back l _ _ (by omega)
  · rw [if_neg h, if_neg h]; rfl

theorem gadd_comm (a b : Int) : gadd a b = gadd b a := by unfold gadd; rw [Int.add_comm]
theorem mixV_back (x y : Int) (k M : Nat) (hk : k < M) : mixV x y k M = mixV y x (M - 1 - k) M := by
  unfold mixV
  rw [show M - 1 - (M - 1 - k) = k by omega, gadd_comm]
theorem crossL_back (la lb : List Int) (M : Nat) (h1 : M ≤ la.length) (h2 : M ≤ lb.length) : crossL la lb (la.length - M) M = (crossL lb.reverse la.reverse (lb.length - M) M).reverse := by
  unfold crossL
  rw [List.reverse_append, List.reverse_append, List.take_reverse, List.drop_reverse, List.reverse_reverse, List.reverse_reverse, List.append_assoc]
  rw [show lb.length - (lb.length - M) = M by omega]
  congr 2
  apply List.ext_getElem?
  intro q
  by_cases hq : q < M
  · rw [List.getElem?_reverse (by simpa using hq), List.length_map, List.length_range, List.getElem?_map, List.getElem?_map, List.getElem?_range hq, List.getElem?_range (by omega)]
    simp only [Option.map_some]
    congr 1
    unfold mixL
    rw [mixV_back _ _ _ _ hq]
    have e1 : lb.reverse.getD (lb.length - M + (M - 1 - q)) 0 = lb.getD q 0 := by
      rw [List.getD_eq_getElem?_getD, List.getElem?_reverse (by omega), List.getD_eq_getElem?_getD]
      rw [show lb.length - 1 - (lb.length - M + (M - 1 - q)) = q by omega]
    have e2 : la.reverse.getD (M - 1 - q) 0 = la.getD (la.length - M + q) 0 := by
      rw [List.getD_eq_getElem?_getD, List.getElem?_reverse (by omega), List.getD_eq_getElem?_getD]
      rw [show la.length - 1 - (M - 1 - q) = la.length - M + q by omega]
    rw [e1, e2]
  · rw [List.getElem?_eq_none (by simp; omega), List.getElem?_eq_none (by simp; omega)]
theorem crE_comm (an bn n : Int) : crE bn an n = crE an bn n := by
  unfold crE
  by_cases h : FOk an n ∧ FOk bn n
  · rw [if_pos h, if_pos ⟨h.2, h.1⟩]
  · rw [if_neg h, if_neg fun g => h ⟨g.2, g.1⟩]
theorem crR_back (la lb : List Int) (an bn : Nat) (n : Int) (ha : la.length = an) (hb : lb.length = bn) : crR la lb an bn n = (crR lb.reverse la.reverse bn an n).reverse := by
  unfold crR
  by_cases h : FOk an n ∧ FOk bn n
  · rw [if_pos h, if_pos ⟨h.2, h.1⟩]
    obtain ⟨⟨_, _, h3⟩, _, _, h4⟩ := h
    subst ha hb
    exact crossL_back la lb _ (by omega) (by omega)
  · rw [if_neg h, if_neg fun g => h ⟨g.2, g.1⟩]; rfl
end Go.Proofs.Ytagikfiiljdpnaa
