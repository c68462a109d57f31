/- A store into a box of one's own leaves links and packets as they are (layer 6). -/
import Derived.Test.YthgbkdaimnejeaaNetOpen
namespace Go.Proofs.Ythgbkdaimnejeaa
open Go.ChangeShapes Go.WideShapes Go.ChangeAt Go.RowKit Go.Sort Go.Shelf

theorem cell_far {w : World} {p i b o : Nat} {u : Value} (hne : b ≠ p) : (w.setCell ⟨p, i, none⟩ u).cell? ⟨b, o, none⟩ = w.cell? ⟨b, o, none⟩ := by
  unfold World.cell?
  simp only [Below.heap_setCell w ⟨p, i, none⟩ u b hne]
theorem Qs.far {w : World} {p i : Nat} {u : Value} {a : Option Addr} {n b off : Nat} {l : List Qt} (h : Qs w a n b off l) (hp : 0 < n → b ≠ p) : Qs (w.setCell ⟨p, i, none⟩ u) a n b off l := by
  refine ⟨h.1, fun hn => ⟨(h.2.1 hn).1, by rw [World.size_setCell]; exact (h.2.1 hn).2⟩, fun j hj => ?_⟩
  have hne := hp (by omega)
  obtain ⟨c0, c1⟩ := h.2.2 j hj
  exact ⟨(cell_far hne).trans c0, (cell_far hne).trans c1⟩
theorem DatR.far {w : World} {p i : Nat} {u : Value} {s : Sl} {S : ByteArray} (h : DatR w s S) (hp : ∀ b o k, w.cell? ⟨b, o, none⟩ = some (.int .u8 k) → b ≠ p) : DatR (w.setCell ⟨p, i, none⟩ u) s S := by
  obtain ⟨b, off, l, hR, rfl⟩ := h
  exact ⟨b, off, l, ⟨hR.len, hR.adr, fun hn => by rw [World.size_setCell]; exact hR.old hn, fun j hj => (cell_far (hp b _ _ (hR.cel j hj))).trans (hR.cel j hj)⟩, rfl⟩
/-- No integer lies in a block of slices. -/
def NoInt (w : World) (g : Nat) : Prop := ∀ b o k n, w.cell? ⟨b, o, none⟩ = some (.int k n) → b ≠ g
theorem NetV.far {w : World} {p i : Nat} {u : Value} {x : Sl × Sl} {L : List Pk} {A : List Qt} (h : NetV w x L A) (hp : NoInt w p) : NetV (w.setCell ⟨p, i, none⟩ u) x L A := by
  obtain ⟨⟨qb, qo, Q, D, pb, po, h1, h2, h3, h4⟩, h5, h6, h7, h8⟩ := h
  refine ⟨⟨qb, qo, Q, D, pb, po, h1.far fun hn => hp _ _ _ _ (h1.2.2 0 hn).1, ⟨h2.len, fun i hi => (h2.dat i hi).far fun b o k => hp b o _ k⟩, h3, h4.far fun hn => hp _ _ _ _ (h4.2.2 0 hn).1⟩, h5, h6, h7, h8⟩
theorem noInt_box {w : World} {g : Nat} {a b c d e f : _} {t : TypeId} {fr : Nat × Nat} (hg : w.heap[g]? = some (.cells #[.slice a b c, .slice d e f] t fr)) : NoInt w g := by
  intro q o k n h e
  subst e
  rw [blk_cell hg] at h
  rcases o with _ | _ | o
  · simp at h
  · simp at h
  · simp at h
theorem NetV.box {w : World} {g : Nat} {a b c d e f a' b' c' d' e' f' : _} {t : TypeId} {x : Sl × Sl} {L : List Pk} {A : List Qt} (h : NetV w x L A) (hg : w.heap[g]? = some (.cells #[.slice a b c, .slice d e f] t (0, 0))) : NetV ((w.setCell ⟨g, 0, none⟩ (.slice a' b' c')).setCell ⟨g, 1, none⟩ (.slice d' e' f')) x L A :=
  (h.far (noInt_box hg)).far (noInt_box (cells_setQ hg))
end Go.Proofs.Ythgbkdaimnejeaa
