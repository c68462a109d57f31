/- What the region of Order leaves, in every order (layer 13). -/
import Derived.Test.YthncfhfnboocmaaLnkNext
import Derived.Test.YthncfhfnboocmaaOwn
namespace Go.Proofs.Ythncfhfnboocmaa
open Go.ChangeShapes Go.WideShapes Go.ChangeAt Go.RowKit

noncomputable def ordL (m : Nat) (l : List Jt) : Nat → List Int
  | 0 => []
  | k + 1 => ordL m l k ++ [(nxtL m l (ordL m l k) : Int)]

theorem blkN {W : World} {o : Obj} {k : Nat} (h : k = W.heap.size) : (W.alloc o).heap[k]? = some o := by subst h; exact blk_new _ _
theorem blkS {W : World} {b k : Nat} {u : Value} {o : Obj} (h : W.heap[k]? = some o) (hne : k ≠ b) : (W.setCell ⟨b, 0, none⟩ u).heap[k]? = some o := (Below.heap_setCell W ⟨b, 0, none⟩ u k hne).trans h
theorem blkU {W : World} {b : Nat} {u v : Value} {t : TypeId} (h : W.heap[b]? = some (.cells #[v] t (0, 0))) : (W.setCell ⟨b, 0, none⟩ u).heap[b]? = some (.cells #[u] t (0, 0)) := one_setCell h
theorem sz_drew (W : World) : W.drew.heap.size = W.heap.size := rfl
theorem cell_drew (W : World) (a : Addr) : W.drew.cell? a = W.cell? a := rfl

/-- What is there behind the statement. -/
def OrdS (m n : Nat) (l : List Jt) (F : Array Value) (w1 wx : World) (s7 s8 : Value) : Prop :=
  ∃ S L mb g : Nat, s7 = .pointer (some ⟨S, 0, none⟩) ∧ s8 = .pointer (some ⟨L, 0, none⟩) ∧ wx.heap[S]? = some (.cells #[.map (some mb)] 43 (0, 0)) ∧ wx.heap[L]? = some (.cells #[.slice (some ⟨g, 0, none⟩) m m] 35 (0, 0)) ∧
      wx.heap[g]? = some (.cells F 4 (0, 0)) ∧ wx.ownsMap Try.prog 3 selfElem mb n (mapJ l n) ∧ w1.heap.size ≤ S ∧ w1.heap.size ≤ L ∧ w1.heap.size ≤ g ∧ Below w1.heap.size w1 wx

theorem OrdS.mk {m n : Nat} {l : List Jt} {F : Array Value} {w1 wx : World} {S L mb g : Nat} (h1 : wx.heap[S]? = some (.cells #[.map (some mb)] 43 (0, 0))) (h2 : wx.heap[L]? = some (.cells #[.slice (some ⟨g, 0, none⟩) m m] 35 (0, 0)))
    (h3 : wx.heap[g]? = some (.cells F 4 (0, 0))) (h4 : wx.ownsMap Try.prog 3 selfElem mb n (mapJ l n)) (h5 : w1.heap.size ≤ S) (h6 : w1.heap.size ≤ L) (h7 : w1.heap.size ≤ g) (h8 : Below w1.heap.size w1 wx) :
    OrdS m n l F w1 wx (.pointer (some ⟨S, 0, none⟩)) (.pointer (some ⟨L, 0, none⟩)) := ⟨S, L, mb, g, rfl, rfl, h1, h2, h3, h4, h5, h6, h7, h8⟩

/-! ### the round -/
theorem ordL_len (m : Nat) (l : List Jt) : ∀ k, (ordL m l k).length = k := by
  intro k
  induction k with
  | zero => rfl
  | succ k ih => unfold ordL; rw [List.length_append, ih]; rfl
theorem nxt_lt {m n : Nat} {l : List Jt} (hl : l.length = n) (hok : okJs (m : Int) l n) (hap : apart l n) (hen : ends1 l) {lst : List Int} (h : lst.length < m) : nxtL m l lst < m ∧ rdy l lst (nxtL m l lst) := by
  subst hl
  obtain ⟨p, hp, h1, h2⟩ := has_next hok hap hen h
  rw [nxtL_is hp h1 h2]
  exact ⟨hp, h1⟩
theorem ord_marks {G : Array Value} {m p : Nat} {lst : List Int} (h : ∀ q : Nat, q < m → G[q]? = some (.bool (decide ((q : Int) ∈ lst)))) (hp : p < m) :
    ∀ q : Nat, q < m → (G.setIfInBounds p (.bool true))[q]? = some (.bool (decide ((q : Int) ∈ lst ++ [(p : Int)]))) := by
  intro q hq
  have hps : p < G.size := (Array.getElem?_eq_some_iff.1 (h p hp)).1
  by_cases e : q = p
  · subst e
    rw [Array.getElem?_setIfInBounds_self, if_pos hps]
    simp
  · rw [Array.getElem?_setIfInBounds_ne (fun x => e x.symm), h q hq]
    have : ((q : Int) ∈ lst ++ [(p : Int)]) ↔ (q : Int) ∈ lst := by simp; omega
    simp [this]
theorem Ints.setLow {w : World} {B g p : Nat} {v u : Value} {l : List Int} (h : Ints w B v l) (hg : g < B) : Ints (w.setCell ⟨g, p, none⟩ u) B v l := by
  refine ⟨h.1, ?_⟩
  rcases h.2 with h0 | ⟨g', cap, cur, h1, h2, h3, h4⟩
  · exact .inl h0
  · exact .inr ⟨g', cap, cur, h1, h2, (Below.heap_setCell w ⟨g, p, none⟩ u g' (show g' ≠ g by omega)).trans h3, h4⟩
/-- The blocks behind one round: w2 behind the closure, w3 behind the append. -/
theorem ord_kept {wr w2 w3 : World} {B g p K : Nat} {u : Value} {x o : Obj} (h : wr.heap[K]? = some o) (hB2 : Below wr.heap.size wr w2) (hB3 : Below B ((w2.setCell ⟨g, p, none⟩ u).alloc x) w3) (hK : K < B) (hg : K ≠ g) : w3.heap[K]? = some o :=
  blk_below (blk_alloc ((Below.heap_setCell w2 ⟨g, p, none⟩ u K hg).trans (blk_below h hB2 (Array.getElem?_eq_some_iff.1 h).1)) x) hB3 hK
theorem ord_mark {wr w2 w3 : World} {B g p : Nat} {u : Value} {x : Obj} {G : Array Value} {t : TypeId} (h : wr.heap[g]? = some (.cells G t (0, 0))) (hB2 : Below wr.heap.size wr w2) (hB3 : Below B ((w2.setCell ⟨g, p, none⟩ u).alloc x) w3) (hg : g < B) : w3.heap[g]? = some (.cells (G.setIfInBounds p u) t (0, 0)) :=
  blk_below (blk_alloc (cells_setJ (blk_below h hB2 (Array.getElem?_eq_some_iff.1 h).1)) x) hB3 hg
theorem ord_map {wr w2 w3 : World} {B g p mb n : Nat} {u : Value} {x : Obj} {D : DataW Value} (h : wr.ownsMap Try.prog 3 selfElem mb n D) (hB2 : Below wr.heap.size wr w2) (hB3 : Below B ((w2.setCell ⟨g, p, none⟩ u).alloc x) w3) (hK : mb < B) (hg : mb ≠ g) : w3.ownsMap Try.prog 3 selfElem mb n D := by
  obtain ⟨es, clock, h1, h2⟩ := h
  exact ⟨es, clock, ord_kept h1 hB2 hB3 hK hg, h2⟩
end Go.Proofs.Ythncfhfnboocmaa
