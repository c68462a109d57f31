/- The examples of layer 13: what is right, orders, values. -/
import Derived.Test.YthncfhfnboocmaaLnkRVals
namespace Go.Proofs.Ythncfhfnboocmaa

theorem okJs_of {n : Int} {l : List Jt} (h : ∀ i : Fin l.length, okJ n (nthJ l i)) : okJs n l l.length := fun i hi => h ⟨i, hi⟩
theorem apart_of {l : List Jt} (h : ∀ i j : Fin l.length, i.1 < j.1 → (nthJ l i).2.1 ≠ (nthJ l j).2.1) : apart l l.length := fun i j h1 h2 => h ⟨i, by omega⟩ ⟨j, h2⟩ h1
theorem ends1_of {l : List Jt} (h : ∀ i : Fin l.length, bks l l.length (some (nthJ l i).1) = none) : ends1 l := fun i hi => h ⟨i, hi⟩
instance (n : Int) (x : Jt) : Decidable (okJ n x) := by unfold okJ; infer_instance
/-- Is a parameter ready, by reckoning. -/
def rdyD (l : List Jt) (lst : List Int) (p : Int) : Bool := decide (p ∉ lst) && (match bk l p with | none => true | some f => decide (f ∈ lst))
theorem rdyD_iff {l : List Jt} {lst : List Int} {p : Int} : rdyD l lst p = true ↔ rdy l lst p := by
  unfold rdyD rdy
  cases bk l p with
  | none => simp
  | some f => simp
theorem nxt_of {m : Nat} {l : List Jt} {lst : List Int} {p : Nat} (hp : p < m) (h : rdyD l lst p = true) (hq : ∀ q : Fin p, rdyD l lst q.1 = false) : nxtL m l lst = p :=
  nxtL_is hp (rdyD_iff.1 h) (fun q hq' g => by have := hq ⟨q, hq'⟩; rw [rdyD_iff.2 g] at this; cases this)
def exA : List Jt := [(2, 0, 1, 1, 0)]
def exB : List Jt := [(0, 1, 1, 1, 0), (1, 2, 1, 1, 0)]
def exC : List Jt := [(1, 0, 2, 3, 5)]
def exD : List Jt := [(0, 1, 1, 1, 0), (1, 0, 1, 1, 0)]
def exE : List Jt := [(0, 1, 0, 1, 0), (2, 1, 0, 1, 0)]
def exF : List Jt := [(0, 0, 0, 1, 0)]
theorem chkA : chkL 3 exA = 0 := chkL_ok (by omega) (by decide) ⟨okJs_of (by decide), apart_of (by decide)⟩ (ends1_of (by decide))
theorem chkB : chkL 3 exB = 0 := chkL_ok (by omega) (by decide) ⟨okJs_of (by decide), apart_of (by decide)⟩ (ends1_of (by decide))
theorem chkX : chkL 2 exC = 0 := chkL_ok (by omega) (by decide) ⟨okJs_of (by decide), apart_of (by decide)⟩ (ends1_of (by decide))
theorem chkD : chkL 2 exD = 131 := chkL_circ (by omega) (by decide) ⟨okJs_of (by decide), apart_of (by decide)⟩ (fun h => absurd (h 0 (by decide)) (by decide))
theorem chkE : chkL 3 exE = 130 := chkL_link (by omega) (by decide) (fun h => h.2 0 1 (by decide) (by decide) (by decide))
theorem chkF : chkL 1 exF = 130 := chkL_link (by omega) (by decide) (fun h => (h.1 0 (by decide)).1 rfl)
theorem chk0 : chkL 0 [] = 0 := chkL_ok (by omega) (by decide) ⟨okJs_of (by decide), apart_of (by decide)⟩ (ends1_of (by decide))
theorem ordA1 : ordL 3 exA 1 = [1] := by show ordL 3 exA 0 ++ _ = _; rw [nxt_of (p := 1) (by omega) (by decide) (by decide)]; rfl
theorem ordA2 : ordL 3 exA 2 = [1, 2] := by show ordL 3 exA 1 ++ [(nxtL 3 exA (ordL 3 exA 1) : Int)] = _; rw [ordA1, nxt_of (p := 2) (by omega) (by decide) (by decide)]; rfl
theorem ordA : ordL 3 exA 3 = [1, 2, 0] := by show ordL 3 exA 2 ++ [(nxtL 3 exA (ordL 3 exA 2) : Int)] = _; rw [ordA2, nxt_of (p := 0) (by omega) (by decide) (by decide)]; rfl
theorem ordB1 : ordL 3 exB 1 = [0] := by show ordL 3 exB 0 ++ _ = _; rw [nxt_of (p := 0) (by omega) (by decide) (by decide)]; rfl
theorem ordB2 : ordL 3 exB 2 = [0, 1] := by show ordL 3 exB 1 ++ [(nxtL 3 exB (ordL 3 exB 1) : Int)] = _; rw [ordB1, nxt_of (p := 1) (by omega) (by decide) (by decide)]; rfl
theorem ordB : ordL 3 exB 3 = [0, 1, 2] := by show ordL 3 exB 2 ++ [(nxtL 3 exB (ordL 3 exB 2) : Int)] = _; rw [ordB2, nxt_of (p := 2) (by omega) (by decide) (by decide)]; rfl
theorem ordC1 : ordL 2 exC 1 = [1] := by show ordL 2 exC 0 ++ _ = _; rw [nxt_of (p := 1) (by omega) (by decide) (by decide)]; rfl
theorem ordC : ordL 2 exC 2 = [1, 0] := by show ordL 2 exC 1 ++ [(nxtL 2 exC (ordL 2 exC 1) : Int)] = _; rw [ordC1, nxt_of (p := 0) (by omega) (by decide) (by decide)]; rfl
theorem valC : valL exC [0, -7] = [0, -7] := by
  unfold valL valK
  rw [show (([0, -7] : List Int).length : Int) = 2 from rfl, if_pos chkX, show ([0, -7] : List Int).length = 2 from rfl, ordC]
  decide
theorem valA : valL exA [9, 1099511627776, -1099511627776] = [-2147483648, 2147483647, -2147483648] := by
  unfold valL valK
  rw [show (([9, 1099511627776, -1099511627776] : List Int).length : Int) = 3 from rfl, if_pos chkA, show ([9, 1099511627776, -1099511627776] : List Int).length = 3 from rfl, ordA]
  decide
theorem orderA : orderL 3 exA = [1, 2, 0] := by unfold orderL; rw [if_pos chkA]; exact ordA
theorem orderB : orderL 3 exB = [0, 1, 2] := by unfold orderL; rw [if_pos chkB]; exact ordB
end Go.Proofs.Ythncfhfnboocmaa
