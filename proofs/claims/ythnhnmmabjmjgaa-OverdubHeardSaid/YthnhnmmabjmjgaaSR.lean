/- Slices of api.Record: in memory, and of a function's own. Made by tools/gen_struct.py. -/
import Derived.Test.YthnhnmmabjmjgaaBase
import Derived.OwnWalk
import Derived.Deep.AppendLies
import Derived.ArgAppend
import Derived.Laws.AppendOwnNone
import Derived.Laws.OwnMore
namespace Go.Proofs.Ythnhnmmabjmjgaa
open Go.ChangeShapes Go.WideShapes Go.ChangeAt Go.RowKit

abbrev Rt := Int × Int × Int × Int × Int
def nthR (l : List Rt) (i : Nat) : Rt := l.getD i (0, 0, 0, 0, 0)
def Rs (w : World) (a : Option Addr) (n : Nat) (b off : Nat) (l : List Rt) : Prop :=
  l.length = n ∧ (0 < n → a = some ⟨b, off, none⟩ ∧ b < w.heap.size) ∧
  ∀ i, i < n → w.cell? ⟨b, off + i * 5, none⟩ = some (.int .i64 (nthR l i).1) ∧ w.cell? ⟨b, off + i * 5 + 1, none⟩ = some (.int .i64 (nthR l i).2.1) ∧ w.cell? ⟨b, off + i * 5 + 2, none⟩ = some (.int .i64 (nthR l i).2.2.1) ∧ w.cell? ⟨b, off + i * 5 + 3, none⟩ = some (.int .i64 (nthR l i).2.2.2.1) ∧ w.cell? ⟨b, off + i * 5 + 4, none⟩ = some (.int .i64 (nthR l i).2.2.2.2)
theorem Rs.below {B : Nat} {w w' : World} {a : Option Addr} {n b off : Nat} {l : List Rt} (h : Rs w a n b off l) (hb : Below B w w') (hB : b < B) : Rs w' a n b off l :=
  ⟨h.1, fun k => ⟨(h.2.1 k).1, Nat.lt_of_lt_of_le (h.2.1 k).2 hb.size⟩, fun i hi => by
    obtain ⟨h0, h1, h2, h3, h4⟩ := h.2.2 i hi
    exact ⟨(hb.cell (p := ⟨b, _, none⟩) hB).trans h0, (hb.cell (p := ⟨b, _, none⟩) hB).trans h1, (hb.cell (p := ⟨b, _, none⟩) hB).trans h2, (hb.cell (p := ⟨b, _, none⟩) hB).trans h3, (hb.cell (p := ⟨b, _, none⟩) hB).trans h4⟩⟩
theorem Rs.grown {w w' : World} {a : Option Addr} {n b off : Nat} {l : List Rt} (h : Rs w a n b off l) (hb : Below w.heap.size w w') : Rs w' a n b off l := by
  by_cases hn : 0 < n
  · exact h.below hb (h.2.1 hn).2
  · exact ⟨h.1, fun k => absurd k hn, fun i hi => absurd hi (by omega)⟩
def encR (m : Rt) : List Value := [.int .i64 m.1, .int .i64 m.2.1, .int .i64 m.2.2.1, .int .i64 m.2.2.2.1, .int .i64 m.2.2.2.2]
def encLR (l : List Rt) : List Value := l.flatMap encR
theorem encLR_len (l : List Rt) : (encLR l).length = l.length * 5 := by
  induction l with
  | nil => rfl
  | cons m l ih => simp only [encLR, List.flatMap_cons, List.length_append, List.length_cons] at *; rw [ih]; simp [encR]; omega
theorem nthR_succ (m : Rt) (l : List Rt) (i : Nat) : nthR (m :: l) (i + 1) = nthR l i := by simp [nthR]
theorem encLR_get (l : List Rt) : ∀ i, i < l.length → (encLR l)[i * 5]? = some (.int .i64 (nthR l i).1) ∧ (encLR l)[i * 5 + 1]? = some (.int .i64 (nthR l i).2.1) ∧ (encLR l)[i * 5 + 2]? = some (.int .i64 (nthR l i).2.2.1) ∧ (encLR l)[i * 5 + 3]? = some (.int .i64 (nthR l i).2.2.2.1) ∧ (encLR l)[i * 5 + 4]? = some (.int .i64 (nthR l i).2.2.2.2) := by
  induction l with
  | nil => intro i hi; simp at hi
  | cons m l ih =>
    intro i hi
    cases i with
    | zero => exact ⟨rfl, rfl, rfl, rfl, rfl⟩
    | succ i =>
      have h := ih i (by simpa using hi)
      have e : ∀ q, (encLR (m :: l))[q + 5]? = (encLR l)[q]? := fun q => by simp only [encLR, List.flatMap_cons, encR]; rfl
      rw [nthR_succ, show (i + 1) * 5 = i * 5 + 5 by omega, e, show i * 5 + 5 + 1 = i * 5 + 1 + 5 by omega, e, show i * 5 + 5 + 2 = i * 5 + 2 + 5 by omega, e, show i * 5 + 5 + 3 = i * 5 + 3 + 5 by omega, e, show i * 5 + 5 + 4 = i * 5 + 4 + 5 by omega, e]
      exact h
theorem encLR_app (l k : List Rt) : encLR (l ++ k) = encLR l ++ encLR k := by simp [encLR]
theorem encLR_one (m : Rt) : encLR [m] = encR m := by simp [encLR]
theorem encLR_cells (l : List Rt) : ∀ u ∈ encLR l, u.oneCell' = true := by
  intro u hu
  obtain ⟨m, _, hm⟩ := List.mem_flatMap.1 hu
  simp [encR] at hm
  rcases hm with rfl | rfl | rfl | rfl | rfl <;> rfl
theorem Rs.encs {w : World} {a : Option Addr} {n b off : Nat} {l : List Rt} (h : Rs w a n b off l) : ∀ j u, (encLR l)[j]? = some u → w.cell? ⟨b, off + j, none⟩ = some u := by
  intro j u hu
  have hj := (List.getElem?_eq_some_iff.1 hu).1
  rw [encLR_len, h.1] at hj
  obtain ⟨c0, c1, c2, c3, c4⟩ := h.2.2 (j / 5) (by omega)
  obtain ⟨e0, e1, e2, e3, e4⟩ := encLR_get l (j / 5) (by rw [h.1]; omega)
  have hm : j % 5 = 0 ∨ j % 5 = 1 ∨ j % 5 = 2 ∨ j % 5 = 3 ∨ j % 5 = 4 := by omega
  rcases hm with hm | hm | hm | hm | hm
  · have ej : j / 5 * 5 = j := by omega
    rw [ej] at c0; rw [ej] at e0; rw [c0, ← e0]; exact hu
  · have ej : j / 5 * 5 + 1 = j := by omega
    rw [Nat.add_assoc, ej] at c1; rw [ej] at e1; rw [c1, ← e1]; exact hu
  · have ej : j / 5 * 5 + 2 = j := by omega
    rw [Nat.add_assoc, ej] at c2; rw [ej] at e2; rw [c2, ← e2]; exact hu
  · have ej : j / 5 * 5 + 3 = j := by omega
    rw [Nat.add_assoc, ej] at c3; rw [ej] at e3; rw [c3, ← e3]; exact hu
  · have ej : j / 5 * 5 + 4 = j := by omega
    rw [Nat.add_assoc, ej] at c4; rw [ej] at e4; rw [c4, ← e4]; exact hu
theorem Rs.zero (w : World) (a : Option Addr) : Rs w a 0 0 0 [] := ⟨rfl, fun h => by omega, fun i hi => by omega⟩
theorem nthR_take {l : List Rt} {k i : Nat} (h : i < k) : nthR (l.take k) i = nthR l i := by simp [nthR, List.getD_eq_getElem?_getD, h]
theorem nthR_drop {l : List Rt} {k i : Nat} : nthR (l.drop k) i = nthR l (k + i) := by simp [nthR, List.getD_eq_getElem?_getD]
theorem Rs.pre {w : World} {a : Option Addr} {n b off : Nat} {l : List Rt} (h : Rs w a n b off l) {k : Nat} (hk : k ≤ n) : Rs w a k b off (l.take k) :=
  ⟨by have := h.1; simp; omega, fun h0 => h.2.1 (by omega), fun i hi => by rw [nthR_take hi]; exact h.2.2 i (by omega)⟩
theorem Rs.post {w : World} {a : Option Addr} {n b off : Nat} {l : List Rt} (h : Rs w a n b off l) {k cap : Nat} (hk : k ≤ n) (hc : n ≤ cap) (hn : a = none → cap = 0) :
    ∃ b3 o3, Rs w (if cap = k then a else a.map (·.add (k * 5))) (n - k) b3 o3 (l.drop k) ∧ ((if cap = k then a else a.map (·.add (k * 5))) = none → cap - k = 0) := by
  have hz : (if cap = k then a else a.map (·.add (k * 5))) = none → cap - k = 0 := by
    intro e
    by_cases hck : cap = k
    · omega
    · rw [if_neg hck] at e
      cases a with
      | none => have := hn rfl; omega
      | some p => cases e
  rcases Nat.eq_zero_or_pos (n - k) with h0 | h0
  · refine ⟨0, 0, ?_, hz⟩
    rw [h0, List.drop_of_length_le (by have := h.1; omega)]
    exact Rs.zero w _
  · obtain ⟨rfl, hbw⟩ := h.2.1 (by omega)
    refine ⟨b, off + k * 5, ⟨by have := h.1; simp; omega, fun _ => ⟨?_, hbw⟩, fun i hi => ?_⟩, hz⟩
    · rw [if_neg (by omega)]
      show some (Addr.add ⟨b, off, none⟩ (k * 5)) = _
      rw [Go.WideShapes.add_plain]
    · rw [nthR_drop]
      have := h.2.2 (k + i) (by omega)
      rwa [show off + (k + i) * 5 = off + k * 5 + i * 5 by omega] at this
theorem Rs.lit (w : World) (cs : Array Value) (l : List Rt) (n : Nat) (hn : l.length = n) (hcs : ∀ i, i < n → cs[i * 5]? = some (.int .i64 (nthR l i).1) ∧ cs[i * 5 + 1]? = some (.int .i64 (nthR l i).2.1) ∧ cs[i * 5 + 2]? = some (.int .i64 (nthR l i).2.2.1) ∧ cs[i * 5 + 3]? = some (.int .i64 (nthR l i).2.2.2.1) ∧ cs[i * 5 + 4]? = some (.int .i64 (nthR l i).2.2.2.2)) :
    Rs (w.alloc (.cells cs 74)) (some ⟨w.heap.size, 0, none⟩) n w.heap.size 0 l :=
  ⟨hn, fun _ => ⟨rfl, by simp⟩, fun i hi => by
    obtain ⟨h0, h1, h2, h3, h4⟩ := hcs i hi
    have hc := fun j => cell_of_row _ w.heap.size j cs 74 (0, 0) (heap_alloc_new w (.cells cs 74))
    simp only [Nat.zero_add]
    exact ⟨(hc _).trans h0, (hc _).trans h1, (hc _).trans h2, (hc _).trans h3, (hc _).trans h4⟩⟩

theorem info_R : (Try.prog.info? 74).map (fun i => (i.zero, i.size, i.bytes)) = some (some (.agg #[.int .i64 0, .int .i64 0, .int .i64 0, .int .i64 0, .int .i64 0]), 5, 40) := by kernel_rfl

def RsO (w : World) (B : Nat) (v : Value) (l : List Rt) : Prop := w.ownsRow B 74 5 v l.length (encLR l)
theorem RsO.nil (w : World) (B : Nat) : RsO w B (.slice none 0 0) [] := World.ownsRow_nil _ _ _ _
theorem RsO.empty (w : World) (fr : Nat × Nat := (0, 0)) (hf : fr = (0, 0) := by rfl) : RsO (w.alloc (.cells #[] 74 fr)) w.heap.size (.slice (some ⟨w.heap.size, 0, none⟩) 0 0) [] := by
  subst hf
  exact ⟨rfl, .inr ⟨w.heap.size, 0, #[], rfl, Nat.le_refl _, heap_alloc_new w _, Nat.le_refl _, by simp [maxLen], rfl, rfl⟩⟩
theorem RsO.alloc {w : World} {B : Nat} {v : Value} {l : List Rt} (h : RsO w B v l) (o : Obj) : RsO (w.alloc o) B v l := World.ownsRow.alloc h o
theorem RsO.mono {w : World} {B B' : Nat} {v : Value} {l : List Rt} (h : RsO w B v l) (hB : B' ≤ B) : RsO w B' v l := by
  refine ⟨h.1, ?_⟩
  rcases h.2 with h0 | ⟨g, cap, cur, h1, h2, h3⟩
  · exact .inl h0
  · exact .inr ⟨g, cap, cur, h1, Nat.le_trans hB h2, h3⟩
theorem RsO.below {w w' : World} {B B' : Nat} {v : Value} {l : List Rt} (h : RsO w B v l) (hb : Below B' w w') (hB : w.heap.size ≤ B') : RsO w' B v l := by
  refine ⟨h.1, ?_⟩
  rcases h.2 with h0 | ⟨g, cap, cur, h1, h2, h3, h4⟩
  · exact .inl h0
  · refine .inr ⟨g, cap, cur, h1, h2, ?_, h4⟩
    have hlt := (Array.getElem?_eq_some_iff.1 h3).1
    exact (hb.block g (by omega)).trans h3
theorem RsO.s {w : World} {B : Nat} {v : Value} {l : List Rt} (h : RsO w B v l) : ∃ a b cap, v = .slice a l.length cap ∧ Rs w a l.length b 0 l ∧ (0 < l.length → ∃ c tb fr, w.heap[b]? = some (.cells c tb fr)) ∧ (a = none → cap = 0) ∧ l.length ≤ cap ∧ cap ≤ maxLen := by
  rcases h.2 with ⟨h0, hn⟩ | ⟨g, cap, cur, h1, h2, h3, h4, h5, h6, h7⟩
  · exact ⟨none, 0, 0, by rw [hn]; exact h0, ⟨rfl, fun h => by omega, fun i hi => by omega⟩, fun h => by omega, fun _ => rfl, by omega, by simp [maxLen]⟩
  · refine ⟨some ⟨g, 0, none⟩, g, cap, h1, ⟨rfl, fun _ => ⟨rfl, (Array.getElem?_eq_some_iff.1 h3).1⟩, fun i hi => ?_⟩, fun _ => ⟨_, _, _, h3⟩, fun h => (by cases h), h4, h5⟩
    subst h1
    obtain ⟨e0, e1, e2, e3, e4⟩ := encLR_get l i hi
    have c0 := World.ownsRow.cellAt h (i * 5) (by omega)
    have c1 := World.ownsRow.cellAt h (i * 5 + 1) (by omega)
    have c2 := World.ownsRow.cellAt h (i * 5 + 2) (by omega)
    have c3 := World.ownsRow.cellAt h (i * 5 + 3) (by omega)
    have c4 := World.ownsRow.cellAt h (i * 5 + 4) (by omega)
    rw [Nat.zero_add]
    exact ⟨c0.trans e0, c1.trans e1, c2.trans e2, c3.trans e3, c4.trans e4⟩
theorem RsO.cellAt {w : World} {B g n c : Nat} {l : List Rt} (h : RsO w B (.slice (some ⟨g, 0, none⟩) n c) l) (hn : l.length = n) (j : Nat) (hj : j < n * 5) : w.cell? ⟨g, j, none⟩ = (encLR l)[j]? := by
  subst hn
  exact World.ownsRow.cellAt h j hj
theorem RsO.freeAt {w : World} {B g n c : Nat} {l : List Rt} (h : RsO w B (.slice (some ⟨g, 0, none⟩) n c) l) (hn : l.length = n) (i : Nat) : w.frozen? ⟨g, i, none⟩ = false := by
  subst hn
  exact World.ownsRow.frozenAt h i
theorem RsO.inBlock {w : World} {B n : Nat} {v : Value} {l : List Rt} (h : RsO w B v l) (hl : l.length = n) (hn : 0 < n) : ∃ g c, v = .slice (some ⟨g, 0, none⟩) n c ∧ B ≤ g := by
  subst hl
  rcases h.2 with ⟨_, h0⟩ | ⟨g, cap, cur, h1, h2, _⟩
  · omega
  · exact ⟨g, cap, h1, h2⟩
theorem encLR_set (m : Rt) : ∀ (l : List Rt) (i : Nat), i < l.length → encLR (l.set i m) = ((((((encLR l).set (i * 5) (.int .i64 m.1)).set (i * 5 + 1) (.int .i64 m.2.1)).set (i * 5 + 2) (.int .i64 m.2.2.1)).set (i * 5 + 3) (.int .i64 m.2.2.2.1)).set (i * 5 + 4) (.int .i64 m.2.2.2.2)) := by
  intro l
  induction l with
  | nil => intro i h; simp at h
  | cons p l ih =>
    intro i h
    cases i with
    | zero => rfl
    | succ i =>
      have hh := ih i (by simpa using h)
      have e : encLR (p :: l) = encR p ++ encLR l := by simp [encLR]
      have e2 : encLR (p :: l.set i m) = encR p ++ encLR (l.set i m) := by simp [encLR]
      rw [List.set_cons_succ, e2, hh, e]
      have k : ∀ (q : Nat) (v : Value) (xs : List Value), (encR p ++ xs).set (q + 5) v = encR p ++ xs.set q v := fun q v xs => by
        rw [List.set_append_right _ _ (by simp [encR])]; simp [encR]
      rw [show (i + 1) * 5 = i * 5 + 5 by omega, k, show i * 5 + 5 + 1 = i * 5 + 1 + 5 by omega, k, show i * 5 + 5 + 2 = i * 5 + 2 + 5 by omega, k, show i * 5 + 5 + 3 = i * 5 + 3 + 5 by omega, k, show i * 5 + 5 + 4 = i * 5 + 4 + 5 by omega, k]
theorem RsO.stored {w : World} {B g n c : Nat} {l : List Rt} (h : RsO w B (.slice (some ⟨g, 0, none⟩) n c) l) (hn : l.length = n) (i : Nat) (hi : i < n) (m : Rt) :
    RsO (((((w.setCell ⟨g, i * 5, none⟩ (.int .i64 m.1)).setCell ⟨g, i * 5 + 1, none⟩ (.int .i64 m.2.1)).setCell ⟨g, i * 5 + 2, none⟩ (.int .i64 m.2.2.1)).setCell ⟨g, i * 5 + 3, none⟩ (.int .i64 m.2.2.2.1)).setCell ⟨g, i * 5 + 4, none⟩ (.int .i64 m.2.2.2.2)) B (.slice (some ⟨g, 0, none⟩) n c) (l.set i m) := by
  subst hn
  have h1 := (World.ownsRow.stored h (i * 5) (.int .i64 m.1)).1
  have h2 := (World.ownsRow.stored h1 (i * 5 + 1) (.int .i64 m.2.1)).1
  have h3 := (World.ownsRow.stored h2 (i * 5 + 2) (.int .i64 m.2.2.1)).1
  have h4 := (World.ownsRow.stored h3 (i * 5 + 3) (.int .i64 m.2.2.2.1)).1
  have h5 := (World.ownsRow.stored h4 (i * 5 + 4) (.int .i64 m.2.2.2.2)).1
  unfold RsO
  rw [List.length_set, encLR_set m l i hi]
  exact h5
theorem cells_setR {w : World} {b i : Nat} {cs : Array Value} {v : Value} {t : TypeId} (h : w.heap[b]? = some (.cells cs t (0, 0))) : (w.setCell ⟨b, i, none⟩ v).heap[b]? = some (.cells (cs.setIfInBounds i v) t (0, 0)) := by
  have hlt := (Array.getElem?_eq_some_iff.1 h).1
  have h' : w.heap[b] = .cells cs t (0, 0) := (Array.getElem?_eq_some_iff.1 h).2
  show (w.heap.modify b _)[b]? = _
  rw [Array.getElem?_eq_getElem (by simpa using hlt), Array.getElem_modify_self, h']
  rfl
/-- A struct stored into a block of its own. -/
theorem boxR_set {w : World} {b : Nat} {x0 x1 x2 x3 x4 u0 u1 u2 u3 u4 : Value} {t : TypeId} (h : w.heap[b]? = some (.cells #[x0, x1, x2, x3, x4] t (0, 0))) : (((((w.setCell ⟨b, 0, none⟩ u0).setCell ⟨b, 1, none⟩ u1).setCell ⟨b, 2, none⟩ u2).setCell ⟨b, 3, none⟩ u3).setCell ⟨b, 4, none⟩ u4).heap[b]? = some (.cells #[u0, u1, u2, u3, u4] t (0, 0)) :=
  (cells_setR (cells_setR (cells_setR (cells_setR (cells_setR h)))))
theorem boxR_far {w : World} {b q : Nat} {u0 u1 u2 u3 u4 : Value} {o : Obj} (hq : q ≠ b) (h : w.heap[q]? = some o) : (((((w.setCell ⟨b, 0, none⟩ u0).setCell ⟨b, 1, none⟩ u1).setCell ⟨b, 2, none⟩ u2).setCell ⟨b, 3, none⟩ u3).setCell ⟨b, 4, none⟩ u4).heap[q]? = some o :=
  ((Below.heap_setCell _ _ _ _ hq).trans ((Below.heap_setCell _ _ _ _ hq).trans ((Below.heap_setCell _ _ _ _ hq).trans ((Below.heap_setCell _ _ _ _ hq).trans ((Below.heap_setCell _ _ _ _ hq).trans h)))))
theorem boxR_below {B : Nat} {a w : World} {b : Nat} {u0 u1 u2 u3 u4 : Value} (hb : B ≤ b) (h : Below B a w) : Below B a (((((w.setCell ⟨b, 0, none⟩ u0).setCell ⟨b, 1, none⟩ u1).setCell ⟨b, 2, none⟩ u2).setCell ⟨b, 3, none⟩ u3).setCell ⟨b, 4, none⟩ u4) :=
  (((((h.setCell (p := ⟨b, 0, none⟩) hb _).setCell (p := ⟨b, 1, none⟩) hb _).setCell (p := ⟨b, 2, none⟩) hb _).setCell (p := ⟨b, 3, none⟩) hb _).setCell (p := ⟨b, 4, none⟩) hb _)

section
variable {ops : Array Oper} {o : Oper} {rest : List Oper} {a : Act} {Q : Exit → Act → World → Prop} {w : World}
theorem wp_append_R {K : Act → World → Prop} (s x : Operand) (ho : o.op = .call { callee := .builtin .append, args := #[s, x], argTypes := #[30, 30] })
    (B : Nat) (v : Value) (l : List Rt) (hs : a.eval s = v) (hown : RsO w B v l) (g : Nat) (m : Rt) (hx : a.eval x = .slice (some ⟨g, 0, none⟩) 1 1) (tb : TypeId) (fr : Nat × Nat)
    (hc : w.heap[g]? = some (.cells #[.int .i64 m.1, .int .i64 m.2.1, .int .i64 m.2.2.1, .int .i64 m.2.2.2.1, .int .i64 m.2.2.2.2] tb fr)) (hlen : l.length ≤ 1200000) (hB : B ≤ w.heap.size)
    (h : ∀ v' w', RsO w' B v' (l ++ [m]) → Below B w w' → w.grownBy w' v.ownBlock → K (a.put o.dst v') w') : o.wp Try.prog a w K Q := by
  obtain ⟨i0, hi, hz0, hz1, hz2⟩ := info_parts info_R
  refine wp_append_own w s x 30 ho B 74 i0 (.agg #[.int .i64 0, .int .i64 0, .int .i64 0, .int .i64 0, .int .i64 0]) 5 40 Try.underlying30 hi hz0 hz1 hz2 rfl (by decide) v l.length _ hs hown ⟨g, 0, none⟩ 1 1 (encR m) hx rfl ?_ ?_ (by unfold maxLen; omega) (by omega) hB ?_
  · exact fun j u hj => World.news_of_block hc j u (by simpa [encR] using hj)
  · intro u hu; exact encLR_cells [m] u (by rw [encLR_one]; exact hu)
  · intro v' w' h1 h2 _
    refine h v' w' ?_ ((Below.refl B w).grown h2 hB fun k hk => (World.ownsRow.lt hown k hk).1) h2
    unfold RsO
    rw [encLR_app, encLR_one, List.length_append]
    exact h1
theorem wp_append_Rs {K : Act → World → Prop} (s x : Operand) (ho : o.op = .call { callee := .builtin .append, args := #[s, x], argTypes := #[30, 30] })
    (B : Nat) (v : Value) (l : List Rt) (hs : a.eval s = v) (hown : RsO w B v l) (ax : Option Addr) (b off n c : Nat) (l2 : List Rt) (hx : a.eval x = .slice ax n c) (hr : Rs w ax n b off l2) (hnc : ax = none → c = 0)
    (hlen : l.length + n ≤ 1200000) (hB : B ≤ w.heap.size)
    (h : ∀ v' w', RsO w' B v' (l ++ l2) → Below B w w' → w.grownBy w' v.ownBlock → K (a.put o.dst v') w') : o.wp Try.prog a w K Q := by
  obtain ⟨i0, hi, hz0, hz1, hz2⟩ := info_parts info_R
  cases ax with
  | none =>
    obtain rfl : c = 0 := hnc rfl
    obtain rfl : n = 0 := by
      rcases Nat.eq_zero_or_pos n with h0 | h0
      · exact h0
      · have := (hr.2.1 h0).1; cases this
    obtain rfl : l2 = [] := List.eq_nil_of_length_eq_zero hr.1
    have hrun := run_append_owned_none (P := Try.prog) (w := w) B 30 o.type 74 i0 5 Try.underlying30 hi v l.length _ hown
    unfold Oper.wp
    simp [execOp, ho, resolve, invoke, builtin, hs, hx, hrun, Result.andThen]
    exact h v w (by rw [List.append_nil]; exact hown) (Below.refl _ _) ⟨rfl, rfl, rfl, Nat.le_refl _, fun _ _ _ => rfl⟩
  | some ad =>
    refine wp_append_own w s x 30 ho B 74 i0 (.agg #[.int .i64 0, .int .i64 0, .int .i64 0, .int .i64 0, .int .i64 0]) 5 40 Try.underlying30 hi hz0 hz1 hz2 rfl (by decide) v l.length _ hs hown ad n c (encLR l2) hx (by rw [encLR_len, hr.1]) ?_ (encLR_cells l2) (by unfold maxLen; omega) (by omega) hB ?_
    · intro j u hj
      have hn : 0 < n := by
        have := (List.getElem?_eq_some_iff.1 hj).1
        rw [encLR_len, hr.1] at this; omega
      have he := (hr.2.1 hn).1
      cases he
      rw [Go.WideShapes.add_plain]
      exact hr.encs j u hj
    · intro v' w' h1 h2 _
      refine h v' w' ?_ ((Below.refl B w).grown h2 hB fun k hk => (World.ownsRow.lt hown k hk).1) h2
      unfold RsO
      rw [encLR_app, List.length_append, hr.1]
      exact h1
theorem wpList_append_R (hgd : o.guard = none) (s x : Operand) (ho : o.op = .call { callee := .builtin .append, args := #[s, x], argTypes := #[30, 30] })
    (B : Nat) (v : Value) (l : List Rt) (hs : a.eval s = v) (hown : RsO w B v l) (g : Nat) (m : Rt) (hx : a.eval x = .slice (some ⟨g, 0, none⟩) 1 1) (tb : TypeId) (fr : Nat × Nat)
    (hc : w.heap[g]? = some (.cells #[.int .i64 m.1, .int .i64 m.2.1, .int .i64 m.2.2.1, .int .i64 m.2.2.2.1, .int .i64 m.2.2.2.2] tb fr)) (hlen : l.length ≤ 1200000) (hB : B ≤ w.heap.size)
    (h : ∀ v' w', RsO w' B v' (l ++ [m]) → Below B w w' → w.grownBy w' v.ownBlock → wpList Try.prog ops Q rest (a.put o.dst v') w') : wpList Try.prog ops Q (o :: rest) a w :=
  wpList_plain hgd fun _ hK => wp_append_R s x ho B v l hs hown g m hx tb fr hc hlen hB fun v' w' h1 h2 h3 => hK _ _ (h v' w' h1 h2 h3)
theorem wpList_append_Rs (hgd : o.guard = none) (s x : Operand) (ho : o.op = .call { callee := .builtin .append, args := #[s, x], argTypes := #[30, 30] })
    (B : Nat) (v : Value) (l : List Rt) (hs : a.eval s = v) (hown : RsO w B v l) (ax : Option Addr) (b off n c : Nat) (l2 : List Rt) (hx : a.eval x = .slice ax n c) (hr : Rs w ax n b off l2) (hnc : ax = none → c = 0)
    (hlen : l.length + n ≤ 1200000) (hB : B ≤ w.heap.size)
    (h : ∀ v' w', RsO w' B v' (l ++ l2) → Below B w w' → w.grownBy w' v.ownBlock → wpList Try.prog ops Q rest (a.put o.dst v') w') : wpList Try.prog ops Q (o :: rest) a w :=
  wpList_plain hgd fun _ hK => wp_append_Rs s x ho B v l hs hown ax b off n c l2 hx hr hnc hlen hB fun v' w' h1 h2 h3 => hK _ _ (h v' w' h1 h2 h3)
end
end Go.Proofs.Ythnhnmmabjmjgaa
