/- A region that draws its order, outside of a fence: some operations first, each with its value. -/
import Derived.Test.YtgeplpigmjmfdaaRound
import Derived.Deep.RegionHeld3
namespace Go.Proofs.Ytgeplpigmjmfdaa
open Go.RowKit Go.Shelf

variable {P : Program} {Q : Exit → Act → World → Prop}

theorem wp_region_from {id : Nat} {a : Act} {w : World} {l : List Oper} (k m : Nat) (S : World → Prop) (hm : P.follows .mixedOrders = true)
    (hs : Region.noSelect l.toArray = true) (hml : k + m ≤ l.length) (hB : headB .any l.toArray (Array.replicate l.length false) k m = true) (hS : S w.drew)
    (h : wpHeld P l.toArray S (fun a' => wpAnyH P .any l.toArray (NoPanic Q) S (l.length - m) (setAll (Array.replicate l.length false) k m) a' w.drew) ((l.drop k).take m) a) : (Code.region id l.toArray true).wp P Q a w := by
  refine wp_region_noPanic (wp_region_held (S := S) hm ?_)
  have e : ((l.drop k).take m).length = m := by simp; omega
  have := wpAnyH_head (md := .any) (P := P) (Q := NoPanic Q) (ops := l.toArray) (fuel := l.length - m) hs (fun _ _ _ _ _ h => h) hS ((l.drop k).take m) k (Array.replicate l.length false) a (fun j hj => by rw [e] at hj; simp [hj]) (by rw [e]; exact hB) (by rw [e]; exact h)
  rw [e, Nat.sub_add_cancel (by omega)] at this
  simpa using this
end Go.Proofs.Ytgeplpigmjmfdaa
