/- The samples that parts stand for (layer 44). -/
import Derived.Test.YthnhnmmabjmjgaaOvdMath
namespace Go.Proofs.Ythnhnmmabjmjgaa
open Go.ChangeShapes Go.WideShapes Go.ChangeAt Go.RowKit Go.Shelf

def padL (acc : List Int) (m : Nat) : List Int := acc ++ List.replicate (m - acc.length) (-1)
def valsD (y : Dt) (j : Nat) : List Int := (List.range j).map fun i : Nat => y.2.2.1 + (i : Int)
def exS (acc : List Int) (y : Dt) : List Int := padL acc y.1.toNat ++ valsD y y.2.1.toNat
def exG (x : List Dt) : List Int := x.foldl exS []
theorem exG_snoc (x : List Dt) (y : Dt) : exG (x ++ [y]) = exS (exG x) y := by unfold exG; rw [List.foldl_append]; rfl
def ExOk (x : List Dt) (n : Int) : Prop := ∀ i, i < x.length → ((exG (x.take i)).length : Int) ≤ (nthD x i).1 ∧ 1 ≤ (nthD x i).2.1 ∧ 0 ≤ (nthD x i).2.2.1 ∧ (nthD x i).1 + (nthD x i).2.1 ≤ n
theorem padL_len (acc : List Int) (m : Nat) : (padL acc m).length = acc.length + (m - acc.length) := by simp [padL]
theorem padL_eq {acc : List Int} {m : Nat} (h : m ≤ acc.length) : padL acc m = acc := by simp [padL, show m - acc.length = 0 by omega]
theorem padL_succ {acc : List Int} {m : Nat} (h : acc.length ≤ m) : padL acc (m + 1) = padL acc m ++ [-1] := by
  unfold padL
  rw [show m + 1 - acc.length = (m - acc.length) + 1 by omega, List.replicate_succ', List.append_assoc]
theorem valsD_len (y : Dt) (j : Nat) : (valsD y j).length = j := by simp [valsD]
theorem valsD_succ (y : Dt) (j : Nat) : valsD y (j + 1) = valsD y j ++ [y.2.2.1 + (j : Int)] := by unfold valsD; rw [List.range_succ, List.map_append]; rfl
theorem exS_len {acc : List Int} {y : Dt} (h : (acc.length : Int) ≤ y.1) (h2 : 0 ≤ y.2.1) : ((exS acc y).length : Int) = y.1 + y.2.1 := by
  unfold exS
  rw [List.length_append, padL_len, valsD_len]
  omega
def hrdL (l : List Ht) (first : Int) (k : Nat) : List Int := (List.range k).map fun j : Nat => hrd l (first + (j : Int))
theorem hrdL_succ (l : List Ht) (first : Int) (k : Nat) : hrdL l first (k + 1) = hrdL l first k ++ [hrd l (first + k)] := by unfold hrdL; rw [List.range_succ, List.map_append]; rfl
theorem hrdL_len (l : List Ht) (first : Int) (k : Nat) : (hrdL l first k).length = k := by simp [hrdL]
theorem nthD_mem {x : List Dt} {i : Nat} (h : i < x.length) : nthD x i ∈ x := by
  unfold nthD
  rw [List.getD_eq_getElem?_getD, List.getElem?_eq_getElem h]
  exact List.getElem_mem _
theorem nthD_set {x : List Dt} {i j : Nat} {y : Dt} (hi : i < x.length) : nthD (x.set j y) i = if j = i then y else nthD x i := by
  unfold nthD
  rw [List.getD_eq_getElem?_getD, List.getD_eq_getElem?_getD, List.getElem?_set]
  by_cases e : j = i
  · subst e; simp [hi]
  · simp [e]
theorem nthD_app {x : List Dt} {i : Nat} {y : Dt} : nthD (x ++ [y]) i = if i < x.length then nthD x i else if i = x.length then y else (0, 0, 0, 0) := by
  unfold nthD
  rw [List.getD_eq_getElem?_getD, List.getD_eq_getElem?_getD]
  by_cases h : i < x.length
  · rw [if_pos h, List.getElem?_append_left h]
  · rw [if_neg h, List.getElem?_append_right (by omega)]
    by_cases e : i = x.length
    · subst e; simp
    · rw [if_neg e, List.getElem?_eq_none (by simp; omega)]; rfl
theorem last_split {x : List Dt} (h : x.length ≠ 0) : x = x.dropLast ++ [lastD x] := by
  have hne : x ≠ [] := fun e => h (by rw [e]; rfl)
  have : lastD x = x.getLast hne := by
    unfold lastD nthD
    rw [List.getD_eq_getElem?_getD, List.getElem?_eq_getElem (by omega), List.getLast_eq_getElem]
    rfl
  rw [this]
  exact (List.dropLast_concat_getLast hne).symm
/-- The first k samples, out of the parts. -/
structure ExK (l : List Ht) (first : Int) (k : Nat) (x : List Dt) : Prop where
  pad : padL (exG x) k = hrdL l first k
  len : (exG x).length ≤ k
  last : x.length ≠ 0 → ((exG x).length : Int) = (lastD x).1 + (lastD x).2.1
  ok : ∀ i, i < x.length → ((exG (x.take i)).length : Int) ≤ (nthD x i).1
theorem exK_all {l : List Ht} (ho : OrdTo l l.length) (first : Int) (k : Nat) : ExK l first k (layF (runsL l first (k : Int))) := by
  induction k with
  | zero =>
    have e : runsL l first ((0 : Nat) : Int) = [] := List.filterMap_eq_nil_iff.2 fun s hs => by
      obtain ⟨j, hj, rfl⟩ := List.mem_iff_getElem.1 hs
      exact runH_behind (by show (0 : Int) ≤ max 0 _; omega)
    rw [e]
    exact ⟨rfl, Nat.le_refl _, fun h => absurd rfl h, fun i hi => by cases hi⟩
  | succ k ih =>
    have hs := (lay_step ho first k).1
    have hok := layF_runs ho first (k : Int)
    have ht := hrd_in ho (first + k)
    have hH := hrdL_succ l first k
    generalize layF (runsL l first (k : Int)) = x at *
    generalize hrd l (first + k) = t at *
    obtain ⟨i1, i2, i3, i4⟩ := ih
    by_cases c : t < 0
    · rw [if_pos c] at hs
      rw [hs]
      refine ⟨by rw [padL_succ i2, i1, hH, show t = -1 by omega], by omega, i3, i4⟩
    rw [if_neg c] at hs
    by_cases g : x.length ≠ 0 ∧ t = nextOf x k
    · rw [if_pos g] at hs
      rw [hs]
      obtain ⟨g0, g1⟩ := g
      have g2 : (lastD x).1 + (lastD x).2.1 = k ∧ t = (lastD x).2.2.1 + (lastD x).2.1 := by
        unfold nextOf at g1
        split at g1
        · rename_i q; exact ⟨q.2, g1⟩
        · omega
      have g3 := hok _ (lastD_mem g0)
      unfold LaidOk at g3
      have g4 := i3 g0
      have hx := last_split g0
      have hb : bump x = x.dropLast ++ [((lastD x).1, (lastD x).2.1 + 1, (lastD x).2.2.1, (lastD x).2.2.2)] := by
        conv => lhs; rw [hx]
        rw [bump_app]
      have hG : exG (bump x) = exG x ++ [t] := by
        have e1 : exG x = exS (exG x.dropLast) (lastD x) := by
          conv => lhs; rw [hx]
          rw [exG_snoc]
        rw [hb, exG_snoc, e1]
        unfold exS
        dsimp only
        rw [show ((lastD x).2.1 + 1).toNat = (lastD x).2.1.toNat + 1 by omega]
        have e2 : valsD ((lastD x).1, (lastD x).2.1 + 1, (lastD x).2.2.1, (lastD x).2.2.2) ((lastD x).2.1.toNat + 1) = valsD (lastD x) (lastD x).2.1.toNat ++ [t] := by
          rw [valsD_succ]
          show valsD (lastD x) (lastD x).2.1.toNat ++ [(lastD x).2.2.1 + (((lastD x).2.1.toNat : Nat) : Int)] = _
          rw [show (lastD x).2.2.1 + (((lastD x).2.1.toNat : Nat) : Int) = t by omega]
        rw [e2, List.append_assoc]
      have hxl : (exG x).length = k := by omega
      refine ⟨?_, by rw [hG, List.length_append, List.length_singleton]; omega, fun _ => ?_, fun i hi => ?_⟩
      · rw [hG, padL_eq (by rw [List.length_append, List.length_singleton]; omega), hH, ← i1, padL_eq (by omega)]
      · rw [hG, List.length_append, List.length_singleton]
        have : lastD (bump x) = ((lastD x).1, (lastD x).2.1 + 1, (lastD x).2.2.1, (lastD x).2.2.2) := by unfold bump; rw [lastD_set g0]
        rw [this]
        dsimp only
        omega
      · have hi' : i < x.length := by unfold bump at hi; rwa [List.length_set] at hi
        unfold bump
        rw [List.take_set_of_le (by omega), nthD_set hi']
        have := i4 i hi'
        split
        · rename_i e
          unfold lastD
          rw [e]
          exact this
        · exact this
    · rw [if_neg g] at hs
      rw [hs]
      have hG : exG (x ++ [oneOf x k t]) = hrdL l first k ++ [t] := by
        rw [exG_snoc]
        unfold exS oneOf
        dsimp only
        rw [Int.toNat_natCast, i1]
        congr 1
        show [t + ((0 : Nat) : Int)] = [t]
        simp
      refine ⟨by rw [hG, padL_eq (by rw [List.length_append, hrdL_len]; simp), hH], by rw [hG, List.length_append, hrdL_len]; simp, fun _ => ?_, fun i hi => ?_⟩
      · rw [hG, lastD_app, List.length_append, hrdL_len]
        unfold oneOf
        simp
      · rw [List.length_append, List.length_singleton] at hi
        rw [nthD_app]
        by_cases e : i < x.length
        · rw [if_pos e, List.take_append_of_le_length (by omega)]
          exact i4 i e
        · rw [if_neg e, if_pos (by omega), List.take_append_of_le_length (by omega), List.take_of_length_le (by omega)]
          unfold oneOf
          dsimp only
          omega
theorem exOk_all {l : List Ht} (ho : OrdTo l l.length) (first : Int) (k : Nat) : ExOk (layF (runsL l first (k : Int))) (k : Int) := fun i hi => by
  have h1 := (exK_all ho first k).ok i hi
  have h2 := layF_runs ho first (k : Int) _ (nthD_mem hi)
  unfold LaidOk at h2
  exact ⟨h1, by omega, by omega, by omega⟩
/-- Parts follow each other: they are as long as can be, and the pass grows where the song went back. -/
def ChOk (x : List Dt) : Prop := (0 < x.length → (nthD x 0).2.2.2 = 0) ∧ ∀ i, i + 1 < x.length → ¬ goesOn (nthD x i) (nthD x (i + 1)) ∧ (nthD x (i + 1)).2.2.2 = passD (nthD x i) (nthD x (i + 1))
theorem chOk_step {n : Int} {x : List Dt} {r : Dt} (h : ChOk x) (hr : RunOk n r) : ChOk (stepD x r) := by
  by_cases h0 : x.length = 0
  · rw [stepD_first h0]
    exact ⟨fun _ => hr.2.2.2.2.2, fun i hi => by simp at hi⟩
  by_cases h1 : goesOn (lastD x) r
  · rw [stepD_on h0 h1]
    refine ⟨fun _ => ?_, fun i hi => ?_⟩
    · rw [nthD_set (by omega)]
      split
      · rename_i e
        unfold lastD
        rw [e]
        exact h.1 (by omega)
      · exact h.1 (by omega)
    · rw [List.length_set] at hi
      have := h.2 i hi
      rw [nthD_set (by omega), nthD_set (by omega), if_neg (show ¬ x.length - 1 = i by omega)]
      split
      · rename_i e
        have e2 : lastD x = nthD x (i + 1) := by unfold lastD; rw [e]
        rw [e2]
        exact this
      · exact this
  · rw [stepD_new h0 h1]
    refine ⟨fun _ => ?_, fun i hi => ?_⟩
    · rw [nthD_app, if_pos (by omega)]
      exact h.1 (by omega)
    · rw [List.length_append, List.length_singleton] at hi
      rw [nthD_app, nthD_app, if_pos (by omega)]
      by_cases e : i + 1 < x.length
      · rw [if_pos e]; exact h.2 i e
      · rw [if_neg e, if_pos (by omega)]
        have e2 : lastD x = nthD x i := by unfold lastD; rw [show x.length - 1 = i by omega]
        rw [← e2]
        exact ⟨h1, rfl⟩
theorem chOk_fold {n : Int} : ∀ (l x : List Dt), (∀ r ∈ l, RunOk n r) → ChOk x → ChOk (l.foldl stepD x)
  | [], _, _, h => h
  | r :: l, x, hl, h => chOk_fold l (stepD x r) (fun r' h' => hl r' (List.mem_cons_of_mem _ h')) (chOk_step h (hl r (List.mem_cons_self ..)))
theorem chOk_all {l : List Ht} (ho : OrdTo l l.length) (first n : Int) : ChOk (layF (runsL l first n)) :=
  chOk_fold (n := n) _ _ (runs_ok ho) ⟨fun h => (by cases h), fun i hi => (by cases hi)⟩
end Go.Proofs.Ythnhnmmabjmjgaa
