/- The walk of FixedMixed (layer 8). -/
import Derived.Test.YtcljkjachaecoaaFixOwnRow
import Derived.Test.YtcljkjachaecoaaFixHeld
namespace Go.Proofs.Ytcljkjachaecoaa
open Go.ChangeShapes Go.WideShapes Go.ChangeAt Go.RowKit

theorem quiet_add_same {P : Program} {f : FuncId} {args : Array Value} {w : World} {a n : Nat} {v : Value}
    (h : Calls P f args (w.drewN (a + n)) fun e w' => e = .returned v ∧ w' = w.drewN (a + n)) :
    Calls P f args (w.drewN (a + n)) fun e w'' => e = .returned v ∧ ∃ m, w'' = w.drewN (a + m) :=
  h.mono fun _ _ ⟨he, hm⟩ => ⟨he, n, hm⟩
def tot (l : List Int) : Int := (l.map clip).sum
theorem tot_nil : tot [] = 0 := rfl
theorem tot_cons (x : Int) (l : List Int) : tot (x :: l) = clip x + tot l := by simp [tot]
theorem tot_app (l l' : List Int) : tot (l ++ l') = tot l + tot l' := by
  induction l with
  | nil => simp [tot_nil]
  | cons x l ih => rw [List.cons_append, tot_cons, tot_cons, ih]; omega
theorem tot_rev (l : List Int) : tot l.reverse = tot l := by
  induction l with
  | nil => rfl
  | cons x l ih => rw [List.reverse_cons, tot_app, ih, tot_cons, tot_cons, tot_nil]; omega
theorem sumTo_take (l : List Int) (k : Nat) (hk : k ≤ l.length) : sumTo l k = tot (l.take k) := by
  induction k with
  | zero => simp [sumTo, tot]
  | succ k ih =>
    rw [List.take_add_one, tot_app, ← ih (by omega)]
    simp only [sumTo]
    have e : l[k]? = some (l.getD k 0) := by simp [List.getD_eq_getElem?_getD, show k < l.length by omega]
    rw [e, Option.toList_some, tot_cons, tot_nil]
    omega
theorem mix_tot (l : List Int) (n : Nat) (h : l.length = n) : mixOf l n = clip (tot l) := by
  unfold mixOf
  rw [sumTo_take l n (by omega), List.take_of_length_le (by omega)]
theorem mix_rot (l o : List Int) (n k : Nat) (h : o.length = n) (ht : tot o = tot l) (hl : l.length = n) (m : Nat) (hm : m = n) : mixOf (o.drop k ++ o.take k) m = mixOf l n := by
  rw [mix_tot _ m (by simp; omega), mix_tot l n hl, tot_app]
  have : tot (o.take k) + tot (o.drop k) = tot o := by rw [← tot_app, List.take_append_drop]
  rw [Int.add_comm, this, ht]
theorem mix_pair (l : List Int) (y z : Int) (n m : Nat) (h : l.length = n) (hm : m = n + 2) (hz : -2147483647 ≤ z ∧ z ≤ 2147483647) (hy : y = -z) : mixOf ([y] ++ l ++ [z]) m = mixOf l n := by
  rw [mix_tot _ m (by simp; omega), mix_tot l n h, tot_app, tot_app, tot_cons, tot_cons, tot_nil]
  have c1 : clip z = z := by unfold clip; omega
  have c2 : clip y = y := by unfold clip; omega
  rw [c1, c2]; congr 1; omega
theorem mix_two (l : List Int) (i : Nat) : mixOf ((l.drop i).take 2) 2 = clip (clip (l.getD i 0) + clip (l.getD (i + 1) 0)) := by
  unfold mixOf
  simp only [sumTo]
  have e0 : ((l.drop i).take 2).getD 0 0 = l.getD i 0 := by simp [List.getD_eq_getElem?_getD]
  have e1 : ((l.drop i).take 2).getD 1 0 = l.getD (i + 1) 0 := by simp [List.getD_eq_getElem?_getD]
  rw [e0, e1]; congr 1; omega

theorem mix_row (a : Option Addr) (b off n cap : Nat) (l : List Int) (w : World) (h : Row w a b off n l) (hn : n ≤ 1000000) :
    Calls Try.prog 17 #[.slice a n cap] w fun e w' => e = .returned (.int .i64 (mixOf l n)) ∧ w = w' :=
  mix_any a b off n cap l w hn h.adr h.cel

/-- '[]int{y}', laid by the call itself. -/
theorem Ints.lit1 (w : World) (y : Int) : Ints (w.alloc (.cells #[.int .i64 y] 3)) w.heap.size (.slice (some ⟨w.heap.size, 0, none⟩) 1 1) [y] :=
  ⟨rfl, .inr ⟨w.heap.size, 1, #[.int .i64 y], rfl, Nat.le_refl _, heap_alloc_new w _, Nat.le_refl _, by simp [maxLen], rfl, rfl⟩⟩
theorem rev_take {l : List Int} {k : Nat} (h : k < l.length) : l.reverse.take (k + 1) = l.reverse.take k ++ [l.getD (l.length - 1 - k) 0] := by
  rw [List.take_add_one, List.getElem?_reverse (by omega)]
  simp [List.getD_eq_getElem?_getD, show l.length - 1 - k < l.length by omega]
end Go.Proofs.Ytcljkjachaecoaa
