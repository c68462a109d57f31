/- Stores into an own slice of integers. -/
import Derived.Test.YthbjjfblapfjdaaDoorOwnBRow
namespace Go.Proofs.YthbjjfblapfjdaaDoor
open Go.ChangeShapes Go.WideShapes Go.ChangeAt Go.RowKit

theorem Byts.stored {w : World} {B g n c : Nat} {l : List Int} (hn : l.length = n) (h : Byts w B (.slice (some ⟨g, 0, none⟩) n c) l) (i : Nat) (x : Int) : Byts (w.setCell ⟨g, i, none⟩ (.int .u8 x)) B (.slice (some ⟨g, 0, none⟩) n c) (l.set i x) := by
  subst hn
  have h1 := (World.ownsRow.stored h i (.int .u8 x)).1
  unfold Byts
  rw [List.length_set, List.map_set]
  exact h1
theorem Byts.freeAt {w : World} {B g n c : Nat} {l : List Int} (h : Byts w B (.slice (some ⟨g, 0, none⟩) n c) l) (hn : l.length = n) (i : Nat) : w.frozen? ⟨g, i, none⟩ = false := by
  subst hn
  exact World.ownsRow.frozenAt h i
theorem Byts.cellAt {w : World} {B g n c : Nat} {l : List Int} (h : Byts w B (.slice (some ⟨g, 0, none⟩) n c) l) (hn : l.length = n) (i : Nat) (hi : i < n) : w.cell? ⟨g, i, none⟩ = some (.int .u8 (l.getD i 0)) := by
  subst hn
  rw [World.ownsRow.cellAt h i (by omega)]
  simp [List.getD_eq_getElem?_getD, hi]
theorem Byts.inBlock {w : World} {B n : Nat} {v : Value} {l : List Int} (h : Byts w B v l) (hl : l.length = n) (hn : 0 < n) : ∃ g c, v = .slice (some ⟨g, 0, none⟩) n c ∧ B ≤ g := by
  subst hl
  rcases h.2 with ⟨_, h0⟩ | ⟨g, cap, cur, h1, h2, _⟩
  · omega
  · exact ⟨g, cap, h1, h2⟩
theorem Byts.drew {w : World} {B : Nat} {v : Value} {l : List Int} (h : Byts w B v l) : Byts w.drew B v l := h.below (Below.refl _ _).drew (Nat.le_refl _)
theorem Byts.isSlice {w : World} {B : Nat} {v : Value} {l : List Int} (h : Byts w B v l) : ∃ a c, v = .slice a l.length c := by
  obtain ⟨a, _, c, hv, _⟩ := h.row
  exact ⟨a, c, hv⟩
end Go.Proofs.YthbjjfblapfjdaaDoor
