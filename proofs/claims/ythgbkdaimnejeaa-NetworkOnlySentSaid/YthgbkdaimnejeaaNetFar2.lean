/- A store into a box of one's own leaves packets and rows as they are (layer 6). -/
import Derived.Test.YthgbkdaimnejeaaNetFar
import Derived.Test.YthgbkdaimnejeaaOwnRow
namespace Go.Proofs.Ythgbkdaimnejeaa
open Go.ChangeShapes Go.WideShapes Go.ChangeAt Go.RowKit Go.Sort Go.Shelf

theorem PkV.far {w : World} {p i : Nat} {u : Value} {k : Kt} {m : Pk} (h : PkV w k m) (hp : NoInt w p) : PkV (w.setCell ⟨p, i, none⟩ u) k m := by
  obtain ⟨S, h1, h2⟩ := h
  exact ⟨S, h1.far fun b o k => hp b o _ k, h2⟩
theorem PkV.box {w : World} {g : Nat} {a b c d e f a' b' c' d' e' f' : _} {t : TypeId} {k : Kt} {m : Pk} (h : PkV w k m) (hg : w.heap[g]? = some (.cells #[.slice a b c, .slice d e f] t (0, 0))) : PkV ((w.setCell ⟨g, 0, none⟩ (.slice a' b' c')).setCell ⟨g, 1, none⟩ (.slice d' e' f')) k m :=
  (h.far (noInt_box hg)).far (noInt_box (cells_setQ hg))
theorem Row.far {w : World} {p i : Nat} {u : Value} {a : Option Addr} {b off n : Nat} {l : List Int} (h : Row w a b off n l) (hp : NoInt w p) : Row (w.setCell ⟨p, i, none⟩ u) a b off n l :=
  ⟨h.len, h.adr, fun hn => by rw [World.size_setCell]; exact h.old hn, fun j hj => (cell_far (hp b _ _ _ (h.cel j hj))).trans (h.cel j hj)⟩
theorem Row.box {w : World} {g : Nat} {a b c d e f a' b' c' d' e' f' : _} {t : TypeId} {ra : Option Addr} {rb ro rn : Nat} {l : List Int} (h : Row w ra rb ro rn l) (hg : w.heap[g]? = some (.cells #[.slice a b c, .slice d e f] t (0, 0))) : Row ((w.setCell ⟨g, 0, none⟩ (.slice a' b' c')).setCell ⟨g, 1, none⟩ (.slice d' e' f')) ra rb ro rn l :=
  (h.far (noInt_box hg)).far (noInt_box (cells_setQ hg))
theorem Row.grown {w w' : World} {a : Option Addr} {b off n : Nat} {l : List Int} (h : Row w a b off n l) (hb : Below w.heap.size w w') : Row w' a b off n l := h.below hb (Nat.le_refl _)
theorem Ints.one (w : World) (y : Int) : Ints (w.alloc (.cells #[.int .i64 y] 3)) w.heap.size (.slice (some ⟨w.heap.size, 0, none⟩) 1 1) [y] :=
  ⟨rfl, .inr ⟨w.heap.size, 1, #[.int .i64 y], rfl, Nat.le_refl _, heap_alloc_new w _, Nat.le_refl _, by simp [maxLen], rfl, rfl⟩⟩
end Go.Proofs.Ythgbkdaimnejeaa
