/- The tick at which a bar begins, as the reference sums it up (layer 10). -/
import Derived.Test.YtkgimglkiniofaaMetreBegin
import Derived.Test.YtkgimglkiniofaaMetreLawC
namespace Go.Proofs.Ytkgimglkiniofaa

theorem part_below {l : List Mt} (h : Changes l) {bar : Int} {j k : Nat} (hjk : j < k) (hk : k < l.length) (c1 : (nthM l k).1 ≤ bar) : partOf l bar j = (endOf l j - (nthM l j).1) * lenOf l j := by
  have e1 : endOf l j = (nthM l (j + 1)).1 := by unfold endOf; rw [if_pos (by omega)]
  have b1 := bar_mono h (show j + 1 ≤ k by omega) hk
  have b2 := endOf_bd h (show j < l.length by omega)
  have ce : capEnd l bar j = (nthM l (j + 1)).1 := by unfold capEnd; rw [if_pos (by omega)]; omega
  unfold partOf
  rw [ce, if_pos (by omega), e1]
  unfold lenOf
  rw [Int.mul_assoc]
theorem begin_below {l : List Mt} (h : Changes l) {bar : Int} {k : Nat} (hk : k < l.length) (c1 : (nthM l k).1 ≤ bar) : ∀ j, j ≤ k → beginK l bar j = tickOf l j := by
  intro j
  induction j with
  | zero => intro _; rfl
  | succ j ih =>
    intro hj
    rw [beginK, ih (by omega), part_below h (show j < k by omega) hk c1]
    rfl
theorem part_at {l : List Mt} {bar : Int} {k : Nat} (c1 : (nthM l k).1 ≤ bar) (c2 : bar < endOf l k) : partOf l bar k = (bar - (nthM l k).1) * lenOf l k := by
  have ce : capEnd l bar k = bar := by
    unfold capEnd
    by_cases e : k + 1 < l.length
    · rw [if_pos e]
      unfold endOf at c2
      rw [if_pos e] at c2
      omega
    · rw [if_neg e]
  unfold partOf lenOf
  rw [ce]
  by_cases e : (nthM l k).1 < bar
  · rw [if_pos e, Int.mul_assoc]
  · rw [if_neg e, show bar - (nthM l k).1 = 0 by omega, Int.zero_mul]
theorem part_behind {l : List Mt} (h : Changes l) {bar : Int} {j k : Nat} (hkj : k < j) (hj : j < l.length) (c2 : bar < endOf l k) : partOf l bar j = 0 := by
  have e := end_le h hkj hj
  have ce := capEnd_le l bar j
  unfold partOf
  rw [if_neg (by omega)]
/-- Begin, where a stretch holds the bar. -/
theorem begin_is {l : List Mt} (h : Changes l) {bar : Int} {k : Nat} (hk : k < l.length) (c1 : (nthM l k).1 ≤ bar) (c2 : bar < endOf l k) : beginK l bar l.length = tickAt l k bar 0 0 := by
  have step : ∀ j, k + 1 ≤ j → j ≤ l.length → beginK l bar j = tickOf l k + (bar - (nthM l k).1) * lenOf l k := by
    intro j
    induction j with
    | zero => intro h1; omega
    | succ j ih =>
      intro h1 h2
      by_cases e : j = k
      · subst e
        rw [beginK, begin_below h hk c1 j (Nat.le_refl _), part_at c1 c2]
      · rw [beginK, ih (by omega) (by omega), part_behind h (show k < j by omega) (by omega) c2, Int.add_zero]
  rw [step l.length (by omega) (Nat.le_refl _)]
  unfold tickAt
  omega
end Go.Proofs.Ytkgimglkiniofaa
