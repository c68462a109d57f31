/- A region that draws its order, outside of a fence: some operations first, each with its value. -/
import Derived.Test.YthnhnmmabjmjgaaRound
import Derived.Deep.RegionHeld3
namespace Go.Proofs.Ythnhnmmabjmjgaa
open Go.RowKit Go.Shelf

variable {P : Program} {Q : Exit → Act → World → Prop}

theorem wp_region_from {id : Nat} {a : Act} {w : World} {l : List Oper} (k m : Nat) (S : World → Prop) (hm : P.follows .mixedOrders = true)
    (hs : Region.noSelect l.toArray = true) (hml : k + m ≤ l.length) (hB : headB .any l.toArray (Array.replicate l.length false) k m = true) (hS : S w.drew)
    (h : wpHeld P l.toArray S (fun a' => wpAnyH P .any l.toArray (NoPanic Q) S (l.length - m) (setAll (Array.replicate l.length false) k m) a' w.drew) ((l.drop k).take m) a) : (Code.region id l.toArray true).wp P Q a w := by
  refine wp_region_noPanic (wp_region_held (S := S) hm ?_)
  have e : ((l.drop k).take m).length = m := by simp; omega
  have := wpAnyH_head (md := .any) (P := P) (Q := NoPanic Q) (ops := l.toArray) (fuel := l.length - m) hs (fun _ _ _ _ _ h => h) hS ((l.drop k).take m) k (Array.replicate l.length false) a (fun j hj => by rw [e] at hj; simp [hj]) (by rw [e]; exact hB) (by rw [e]; exact h)
  rw [e, Nat.sub_add_cancel (by omega)] at this
  simpa using this
/-- Further operations, from number k on, each with its value. -/
theorem wpAnyH_from {ops : List Oper} {S : World → Prop} {listed : Array Bool} {a : Act} {w : World} {fuel : Nat} (k m : Nat) (hQ : ∀ c a w d v, Q (.panic c) (a.put d v) w → Q (.panic c) a w) (hs : Region.noSelect ops.toArray = true) (hml : k + m ≤ ops.length) (hB : headB .any ops.toArray listed k m = true) (hS : S w)
    (h : wpHeld P ops.toArray S (fun a' => wpAnyH P .any ops.toArray Q S fuel (setAll listed k m) a' w) ((ops.drop k).take m) a) : wpAnyH P .any ops.toArray Q S (fuel + m) listed a w := by
  have e : ((ops.drop k).take m).length = m := by simp; omega
  have := wpAnyH_head (md := .any) (P := P) (Q := Q) (ops := ops.toArray) (fuel := fuel) hs hQ hS ((ops.drop k).take m) k listed a (fun j hj => by rw [e] at hj; simp [hj]) (by rw [e]; exact hB) (by rw [e]; exact h)
  rwa [e] at this
end Go.Proofs.Ythnhnmmabjmjgaa
