/- One of three operations; two digests in memory (layer 2). -/
import Derived.Test.YthbjjfblapfjdaaDoorDigSane
namespace Go.Proofs.YthbjjfblapfjdaaDoor
open Go.ChangeShapes Go.WideShapes Go.ChangeAt Go.RowKit Go.Shelf
/-- Any of three operations may come up. -/
theorem wpAnyH_three {P : Program} {md : Region.Mode} {ops : Array Oper} {Q : Exit → Act → World → Prop} {S : World → Prop} {i j k : Nat} {o o' o'' : Oper} {fuel : Nat} {listed : Array Bool} {a : Act} {w : World} (hr : Region.ready md ops listed = [i, j, k]) (hi : ops[i]? = some o) (hj : ops[j]? = some o') (hk : ops[k]? = some o'') (hw : Region.wanted o (yielded ops a.tmps) = true) (hw' : Region.wanted o' (yielded ops a.tmps) = true) (hw'' : Region.wanted o'' (yielded ops a.tmps) = true)
    (h : ∀ K' : Act → World → Prop, (∀ a w, S w → wpAnyH P md ops Q S fuel (listed.setIfInBounds i true) a w → K' a w) → Oper.wp P o a w K' Q)
    (h' : ∀ K' : Act → World → Prop, (∀ a w, S w → wpAnyH P md ops Q S fuel (listed.setIfInBounds j true) a w → K' a w) → Oper.wp P o' a w K' Q)
    (h'' : ∀ K' : Act → World → Prop, (∀ a w, S w → wpAnyH P md ops Q S fuel (listed.setIfInBounds k true) a w → K' a w) → Oper.wp P o'' a w K' Q) : wpAnyH P md ops Q S (fuel + 1) listed a w := by
  refine wpAnyH_all hr (by simp) ?_
  intro x hx
  rcases List.mem_cons.1 hx with rfl | hx
  · unfold wpOp
    simp only [hi, hw, if_true]
    exact .inl (h _ fun a w hS h => ⟨hS, h⟩)
  rcases List.mem_cons.1 hx with rfl | hx
  · unfold wpOp
    simp only [hj, hw', if_true]
    exact .inl (h' _ fun a w hS h => ⟨hS, h⟩)
  · obtain rfl := List.mem_singleton.1 hx
    unfold wpOp
    simp only [hk, hw'', if_true]
    exact .inl (h'' _ fun a w hS h => ⟨hS, h⟩)
/-- Two variables that hold digests. -/
def TwoD (A B : List Int) (W0 : World) (s5 s6 : Value) (wx : World) : Prop :=
  ∃ b5 b6 : Nat, s5 = .pointer (some ⟨b5, 0, none⟩) ∧ s6 = .pointer (some ⟨b6, 0, none⟩) ∧ wx.heap[b5]? = some (.cells (bV A) 26 (0, 0)) ∧ wx.heap[b6]? = some (.cells (bV B) 26 (0, 0)) ∧ Below W0.heap.size W0 wx ∧ W0.heap.size ≤ b5 ∧ W0.heap.size ≤ b6 ∧ b5 ≠ b6
theorem other_block {w : World} {b c : Nat} {X : Obj} (h : w.heap[b]? = some X) (hc : w.heap.size ≤ c) : b ≠ c := by
  have := (Array.getElem?_eq_some_iff.1 h).1
  omega
theorem DgsO.ge {w : World} {B g n c : Nat} {l : List (List Int)} (h : DgsO w B (.slice (some ⟨g, 0, none⟩) n c) l) : B ≤ g := by
  rcases h.2.2 with ⟨h0, _⟩ | ⟨g', cap, cur, h1, h2, _⟩
  · cases h0
  · simp only [Value.slice.injEq, Option.some.injEq, Addr.mk.injEq] at h1
    omega
theorem DigR.setRow {w : World} {a : Option Addr} {b off n : Nat} {l : List (List Int)} (h : DigR w a b off n l) (g : Nat) (cs : Array Value) (hg : b ≠ g) : DigR (w.setRow g cs) a b off n l :=
  ⟨h.len, h.dig, h.adr, fun hn => by rw [size_setRow]; exact h.old hn, fun i j hi hj => (cell_setRow_other w g cs _ hg).trans (h.cel i j hi hj)⟩
theorem blk_lt {w : World} {b : Nat} {X : Obj} (h : w.heap[b]? = some X) : b < w.heap.size := (Array.getElem?_eq_some_iff.1 h).1
end Go.Proofs.YthbjjfblapfjdaaDoor
