/- The table of shapes (layer 11). -/
import Derived.Test.YtmblkmllamccnaaCrvLine
import Derived.Test.YtmblkmllamccnaaSK
import Derived.Laws.EntriesVeiled
namespace Go.Proofs.Ytmblkmllamccnaa
open Go.ChangeShapes Go.WideShapes Go.ChangeAt Go.RowKit

def tabC : Array Value := #[.bool false, .bool false, .nilFunc, .bool false, .bool false, .func (.func 47) #[] #[], .bool false, .bool true, .func (.func 48) #[] #[], .bool true, .bool true, .func (.func 49) #[] #[]]
def tabV : Value := .agg tabC
theorem shapes_any (w : World) : Calls Try.prog 39 #[] w fun e w' => e = .returned tabV ∧ Below w.heap.size w w' := by
  go_enter Try.func39, Try.ntmps39
  go_wp2
  exact bodyPost_ret (by simp [results, Try.results39, go_sem]; rfl) rfl ⟨rfl, (Below.refl _ _).alloc (Nat.le_refl _) _⟩

/-- A knot is right, for a greatest At. -/
def okK (most : Int) (m : Kt) : Prop := 0 ≤ m.1 ∧ m.1 ≤ most ∧ -2147483648 ≤ m.2.1 ∧ m.2.1 ≤ 2147483647 ∧ 1 ≤ m.2.2.1 ∧ m.2.2.1 ≤ 3 ∧ (m.2.2.1 = 3 → 1 ≤ m.2.2.2.1 ∧ m.2.2.2.1 ≤ 16 ∧ 1 ≤ m.2.2.2.2 ∧ m.2.2.2.2 ≤ 16) ∧ (m.2.2.1 ≠ 3 → m.2.2.2.1 = 0 ∧ m.2.2.2.2 = 0)
def okKs (most : Int) (l : List Kt) (k : Nat) : Prop := ∀ i, i < k → okK most (nthK l i) ∧ (0 < i → (nthK l (i - 1)).1 < (nthK l i).1)
/-- A list of knots is right, for a greatest At. -/
def Lane (most : Int) (l : List Kt) : Prop := l.length ≤ 1024 ∧ okKs most l l.length
def Curve (l : List Kt) : Prop := Lane 1099511627776 l ∧ ∀ i, i + 1 < l.length → (nthK l i).2.2.1 ≠ 1 → (nthK l (i + 1)).1 - (nthK l i).1 ≤ 16777216
theorem okKs_succ (most : Int) (l : List Kt) (k : Nat) : okKs most l (k + 1) ↔ okKs most l k ∧ okK most (nthK l k) ∧ (0 < k → (nthK l (k - 1)).1 < (nthK l k).1) := by
  refine ⟨fun h => ⟨fun i hi => h i (by omega), (h k (by omega)).1, (h k (by omega)).2⟩, fun h i hi => ?_⟩
  by_cases e : i = k
  · subst e; exact h.2
  · exact h.1 i (by omega)
noncomputable def laneB (most : Int) (l : List Kt) : Bool := by classical exact decide (Lane most l)
theorem laneB_t {most : Int} {l : List Kt} (h : Lane most l) : laneB most l = true := by unfold laneB; simpa using h
theorem laneB_f {most : Int} {l : List Kt} (h : ¬ Lane most l) : laneB most l = false := by unfold laneB; simpa using h
end Go.Proofs.Ytmblkmllamccnaa
