/- A range over a function, where the body writes to the caller's own cells alone. -/
import Derived.Test.YthnhnmmabjmjgaaBase
import Derived.RangeFuncNested
import Derived.RangeFuncBound
import Derived.RangeFuncCalls
import Derived.RangeFuncLeaves
import Derived.RangeFuncBox
import Derived.Shelf.Abstract
import Derived.Shelf.RegionOpen
import Derived.OwnWalkIn
import Derived.TacticsInMore
import Derived.LoopNIn
import Derived.LoopIn
import Derived.Scope
namespace Go.Proofs.Ythnhnmmabjmjgaa
open Go.RowKit Go.Shelf

/-- Cells that are not the caller's own lie as they lay. -/
structure KpEx (own : Nat → Prop) (W W' : World) : Prop where
  size : W.heap.size ≤ W'.heap.size
  same : ∀ (k : Nat) (o : Obj), W.heap[k]? = some o → o.isCells = true → ¬ own k → W'.heap[k]? = some o

theorem KpEx.refl (own : Nat → Prop) (W : World) : KpEx own W W := ⟨Nat.le_refl _, fun _ _ h _ _ => h⟩
theorem kpEx_t {own : Nat → Prop} : ∀ {A B C : World}, KpEx own A B → KpEx own B C → KpEx own A C := fun h k =>
  ⟨Nat.le_trans h.size k.size, fun i o hi ho hn => k.same i o (h.same i o hi ho hn) ho hn⟩
theorem kpEx_b {own : Nat → Prop} {B : Nat} : ∀ (W : World) (l : Nat) (o o' : Obj), B ≤ l → W.heap[l]? = some o → o.isCells = false → o.isWalk = false → KpEx own W (W.putObj l o') := fun W l o o' _ hl ho _ =>
  ⟨by simp, fun k x hk hx _ => by
    by_cases e : k = l
    · subst e; rw [hl] at hk; cases hk; rw [ho] at hx; cases hx
    · exact (World.putObj_heap_other e).trans hk⟩
theorem KpEx.alloc (own : Nat → Prop) (W : World) (o : Obj) : KpEx own W (W.alloc o) :=
  ⟨by simp, fun k _ hk _ _ => (Below.heap_alloc W o k (Array.getElem?_eq_some_iff.1 hk).1).trans hk⟩
theorem KpEx.below (own : Nat → Prop) {W W' : World} (h : Below W.heap.size W W') : KpEx own W W' :=
  ⟨h.size, fun k _ hk _ _ => (h.block k (Array.getElem?_eq_some_iff.1 hk).1).trans hk⟩
theorem KpEx.setCell {own : Nat → Prop} {W : World} {a : Addr} (ha : own a.block) (v : Value) : KpEx own W (W.setCell a v) :=
  ⟨by simp, fun k _ hk _ hn => (Below.heap_setCell W a v k (fun e => hn (by rw [e]; exact ha))).trans hk⟩
theorem grown_of_below {W W' : World} (h : Below W.heap.size W W') : W.grownBy W' none := ⟨h.os, h.tape, h.output, h.size, fun k hk _ => h.block k hk⟩
theorem abides_below {β : Type} {B : Nat} {J : β → World → Prop} (hJ : AbidesFrom B J) {s : β} {W W' : World} (h : J s W) (hb : Below W.heap.size W W') : J s W' :=
  hJ s W W' none h (grown_of_below hb) (fun r e => by cases e)
theorem keeps_below {W W' : World} (h : Below W.heap.size W W') : KeepsOthers W W' := ⟨h.size, fun k _ hk _ => (h.block k (Array.getElem?_eq_some_iff.1 hk).1).trans hk⟩
/-- What lies in a block of cells, and that it lies there whole. -/
theorem blk_kept {W W' : World} {row : Option Nat} {k : Nat} {c : Array Value} {t : TypeId} {fr : Nat × Nat} (h : W.heap[k]? = some (.cells c t fr)) (hg : W.grownBy W' row) (hrow : ∀ r, row = some r → ∃ o : Obj, W.heap[r]? = some o ∧ o.isCells = false) : W'.heap[k]? = some (.cells c t fr) :=
  (grownBy_keeps_cells hg hrow h rfl).trans h
theorem wpIn_scope_wide {n : Nat} {P : Program} {c : Code} {Q : Exit → Act → World → Prop} {a : Act} {w : World} (h : c.wpIn Fence.wide n P (Exit.noGoto Q) a w) : (Code.scope c).wpIn Fence.wide n P Q a w :=
  wpIn_wide.2 (wp_scope_straight (wpIn_wide.1 h))
end Go.Proofs.Ythnhnmmabjmjgaa
