/- The list with one change more, as a loop builds it (layer 10). -/
import Derived.Test.YtkgimglkiniofaaMetreAgM
import Derived.Test.YtkgimglkiniofaaMetreOwnT
import Derived.Test.YtkgimglkiniofaaMetreLawC
namespace Go.Proofs.Ytkgimglkiniofaa

def insN (l : List Mt) (k : Nat) (M : Mt) (i : Nat) : Mt := if i ≤ k then nthM l i else if i = k + 1 then M else nthM l (i - 1)
def insL (l : List Mt) (k : Nat) (M : Mt) (n : Nat) : List Mt := (List.range n).map (insN l k M)
theorem insL_len (l : List Mt) (k : Nat) (M : Mt) (n : Nat) : (insL l k M n).length = n := by simp [insL]
theorem insL_succ (l : List Mt) (k : Nat) (M : Mt) (n : Nat) : insL l k M (n + 1) = insL l k M n ++ [insN l k M n] := by simp [insL, List.range_succ]
theorem insL_nth (l : List Mt) (k : Nat) (M : Mt) {n i : Nat} (h : i < n) : nthM (insL l k M n) i = insN l k M i := by
  unfold nthM insL
  rw [List.getD_eq_getElem?_getD, List.getElem?_map, List.getElem?_range h]
  rfl
theorem insL_far (l : List Mt) (k : Nat) (M : Mt) {n i : Nat} (h : n ≤ i) : nthM (insL l k M n) i = (0, 0, 0) := by
  unfold nthM
  rw [List.getD_eq_getElem?_getD, List.getElem?_eq_none (by rw [insL_len]; exact h)]
  rfl
theorem nth_far {l : List Mt} {i : Nat} (h : l.length ≤ i) : nthM l i = (0, 0, 0) := by
  unfold nthM
  rw [List.getD_eq_getElem?_getD, List.getElem?_eq_none h]
  rfl
theorem insN_lo (l : List Mt) {k : Nat} (M : Mt) {i : Nat} (h : i ≤ k) : insN l k M i = nthM l i := if_pos h
theorem insN_at (l : List Mt) (k : Nat) (M : Mt) : insN l k M (k + 1) = M := by unfold insN; rw [if_neg (by omega), if_pos rfl]
theorem insN_hi (l : List Mt) {k : Nat} (M : Mt) {i : Nat} (h : k < i) : insN l k M (i + 1) = nthM l i := by
  unfold insN; rw [if_neg (by omega), if_neg (by omega)]; rfl
theorem insL_ins {l : List Mt} {k : Nat} {bar : Int} {M : Mt} (hM : M = (bar, (nthM l k).2.1, (nthM l k).2.2)) (hk : k < l.length) (b1 : (nthM l k).1 < bar) (b2 : bar < endOf l k) (b3 : bar ≤ 1048576) : Ins l (insL l k M (l.length + 1)) k bar where
  len := insL_len ..
  lt := hk
  lo := fun j hj => by rw [insL_nth _ _ _ (by omega), insN_lo _ _ hj]
  at' := by rw [insL_nth _ _ _ (by omega), insN_at]; exact hM
  hi := fun j hj => by
    rcases Nat.lt_or_ge j l.length with h | h
    · rw [insL_nth _ _ _ (by omega), insN_hi _ _ hj]
    · rw [insL_far _ _ _ (by omega), nth_far h]
  b1 := b1
  b2 := b2
  b3 := b3
theorem bar_hi {l : List Mt} (hc : Changes l) {k j : Nat} {bar : Int} (hk : k < j) (hj : j < l.length) (b2 : bar < endOf l k) : bar < (nthM l j).1 := by
  have := end_le hc hk hj; omega
theorem bar_lo {l : List Mt} (hc : Changes l) {k j : Nat} {bar : Int} (hk : j ≤ k) (hl : k < l.length) (b1 : (nthM l k).1 < bar) : (nthM l j).1 < bar := by
  rcases Nat.lt_or_eq_of_le hk with h | h
  · have := end_le hc h hl
    have := endOf_bd hc (show j < l.length by omega)
    omega
  · subst h; exact b1
end Go.Proofs.Ytkgimglkiniofaa
