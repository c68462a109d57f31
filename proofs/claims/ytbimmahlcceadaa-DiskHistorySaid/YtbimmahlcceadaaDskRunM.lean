/- Syncing one by one and together, as mathematics (layer 4). -/
import Derived.Test.YtbimmahlcceadaaDskMath
import Derived.Test.YtbimmahlcceadaaSA
namespace Go.Proofs.Ytbimmahlcceadaa
open Go.ChangeShapes Go.WideShapes Go.ChangeAt Go.RowKit
/-- The sector of an act. -/
def atA (l : List At) (n k : Nat) : Nat := ((nthA l k).2.1 % (n : Int)).toNat
def dataA (l : List At) (k : Nat) : List Int := padL [(nthA l k).2.2]
theorem dataA_len (l : List At) (k : Nat) : (dataA l k).length = 128 := padL_len (by simp)
/-- What the sectors hold behind k writes. -/
def contA (S : List Sl) (l : List At) (n : Nat) : Nat → Nat → List Int
  | 0, i => (nS S i).2.2
  | k + 1, i => if atA l n k = i then dataA l k else contA S l n k i
theorem contA_len {S : List Sl} {l : List At} {n : Nat} (h : ∀ i, i < n → (nS S i).2.2.length = 128) : ∀ k i, i < n → (contA S l n k i).length = 128
  | 0, i, hi => h i hi
  | k + 1, i, hi => by
    unfold contA
    split
    · exact dataA_len l k
    · exact contA_len h k i hi
theorem atA_lt {l : List At} {n k : Nat} (hn : 0 < n) : atA l n k < n := by
  unfold atA
  have h1 := Int.emod_nonneg (nthA l k).2.1 (show (n : Int) ≠ 0 by omega)
  have h2 := Int.emod_lt_of_pos (nthA l k).2.1 (show (0 : Int) < n by omega)
  omega
theorem atA_int {l : List At} {n k : Nat} (hn : 0 < n) : (nthA l k).2.1 % (n : Int) = (atA l n k : Int) := by
  unfold atA
  have h1 := Int.emod_nonneg (nthA l k).2.1 (show (n : Int) ≠ 0 by omega)
  omega
/-- Writes that do what the acts say. -/
def PensA (P : List Wr) (l : List At) (n k : Nat) : Prop := P.length = k ∧ ∀ j, j < k → (nW P j).1 = (atA l n j : Int) ∧ (nW P j).2.2.2 = dataA l j
theorem PensA.snoc {P : List Wr} {l : List At} {n k : Nat} {Y : Sl} (h : PensA P l n k) (hY : Y.2.2 = dataA l k) : PensA (P ++ [((atA l n k : Int), Y)]) l n (k + 1) := by
  obtain ⟨h1, h2⟩ := h
  refine ⟨by simp; exact h1, fun j hj => ?_⟩
  by_cases e : j < k
  · rw [nW_app_l (by omega)]; exact h2 j e
  · obtain rfl : j = P.length := by omega
    rw [nW_app_r]
    subst h1
    exact ⟨rfl, hY⟩
theorem cont_perf {S : List Sl} {P : List Wr} {l : List At} {n k : Nat} (hS : S.length = n) (hn : 0 < n) (h : PensA P l n k) : ∀ m, m ≤ k → ∀ i, i < n → (nS (perfK S P m) i).2.2 = contA S l n m i
  | 0, _, i, _ => rfl
  | m + 1, hm, i, hi => by
    obtain ⟨e1, e2⟩ := h.2 m (by omega)
    unfold perfK contA
    rw [e1, Int.toNat_natCast]
    by_cases e : atA l n m = i
    · rw [if_pos e, ← e, nS_set (by rw [perfK_len, hS]; exact atA_lt hn), e2]
    · rw [if_neg e, nS_set_ne (Ne.symm e)]
      exact cont_perf hS hn h m (by omega) i hi
theorem okWr_of {P : List Wr} {l : List At} {n k : Nat} (hn : 0 < n) (h : PensA P l n k) {j : Nat} (hj : j < k) : okWr n (nW P j) := by
  obtain ⟨e1, e2⟩ := h.2 j hj
  have := atA_lt (l := l) (k := j) hn
  exact ⟨by rw [e1]; omega, by rw [e1]; omega, by rw [e2]; exact dataA_len l j⟩
/-- A run of x: what it has before act k. -/
def leftA (lf : Int) (k : Nat) : Int := if lf = -1 then -1 else lf - k
theorem leftA_run {lf : Int} {k : Nat} (h1 : -1 ≤ lf) (h2 : lf ≤ 65536) (h : lf = -1 ∨ (k : Int) ≤ lf) : -1 ≤ leftA lf k ∧ leftA lf k ≤ 65536 := by
  unfold leftA
  split <;> omega
end Go.Proofs.Ytbimmahlcceadaa
