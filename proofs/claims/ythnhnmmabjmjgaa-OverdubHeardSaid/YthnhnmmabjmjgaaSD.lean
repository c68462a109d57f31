/- Slices of api.Laid: in memory, and of a function's own. Made by tools/gen_struct.py. -/
import Derived.Test.YthnhnmmabjmjgaaBase
import Derived.OwnWalk
import Derived.Deep.AppendLies
import Derived.ArgAppend
import Derived.Laws.AppendOwnNone
import Derived.Laws.OwnMore
namespace Go.Proofs.Ythnhnmmabjmjgaa
open Go.ChangeShapes Go.WideShapes Go.ChangeAt Go.RowKit

abbrev Dt := Int × Int × Int × Int
def nthD (l : List Dt) (i : Nat) : Dt := l.getD i (0, 0, 0, 0)
def Ds (w : World) (a : Option Addr) (n : Nat) (b off : Nat) (l : List Dt) : Prop :=
  l.length = n ∧ (0 < n → a = some ⟨b, off, none⟩ ∧ b < w.heap.size) ∧
  ∀ i, i < n → w.cell? ⟨b, off + i * 4, none⟩ = some (.int .i64 (nthD l i).1) ∧ w.cell? ⟨b, off + i * 4 + 1, none⟩ = some (.int .i64 (nthD l i).2.1) ∧ w.cell? ⟨b, off + i * 4 + 2, none⟩ = some (.int .i64 (nthD l i).2.2.1) ∧ w.cell? ⟨b, off + i * 4 + 3, none⟩ = some (.int .i64 (nthD l i).2.2.2)
theorem Ds.below {B : Nat} {w w' : World} {a : Option Addr} {n b off : Nat} {l : List Dt} (h : Ds w a n b off l) (hb : Below B w w') (hB : b < B) : Ds w' a n b off l :=
  ⟨h.1, fun k => ⟨(h.2.1 k).1, Nat.lt_of_lt_of_le (h.2.1 k).2 hb.size⟩, fun i hi => by
    obtain ⟨h0, h1, h2, h3⟩ := h.2.2 i hi
    exact ⟨(hb.cell (p := ⟨b, _, none⟩) hB).trans h0, (hb.cell (p := ⟨b, _, none⟩) hB).trans h1, (hb.cell (p := ⟨b, _, none⟩) hB).trans h2, (hb.cell (p := ⟨b, _, none⟩) hB).trans h3⟩⟩
theorem Ds.grown {w w' : World} {a : Option Addr} {n b off : Nat} {l : List Dt} (h : Ds w a n b off l) (hb : Below w.heap.size w w') : Ds w' a n b off l := by
  by_cases hn : 0 < n
  · exact h.below hb (h.2.1 hn).2
  · exact ⟨h.1, fun k => absurd k hn, fun i hi => absurd hi (by omega)⟩
def encD (m : Dt) : List Value := [.int .i64 m.1, .int .i64 m.2.1, .int .i64 m.2.2.1, .int .i64 m.2.2.2]
def encLD (l : List Dt) : List Value := l.flatMap encD
theorem encLD_len (l : List Dt) : (encLD l).length = l.length * 4 := by
  induction l with
  | nil => rfl
  | cons m l ih => simp only [encLD, List.flatMap_cons, List.length_append, List.length_cons] at *; rw [ih]; simp [encD]; omega
theorem nthD_succ (m : Dt) (l : List Dt) (i : Nat) : nthD (m :: l) (i + 1) = nthD l i := by simp [nthD]
theorem encLD_get (l : List Dt) : ∀ i, i < l.length → (encLD l)[i * 4]? = some (.int .i64 (nthD l i).1) ∧ (encLD l)[i * 4 + 1]? = some (.int .i64 (nthD l i).2.1) ∧ (encLD l)[i * 4 + 2]? = some (.int .i64 (nthD l i).2.2.1) ∧ (encLD l)[i * 4 + 3]? = some (.int .i64 (nthD l i).2.2.2) := by
  induction l with
  | nil => intro i hi; simp at hi
  | cons m l ih =>
    intro i hi
    cases i with
    | zero => exact ⟨rfl, rfl, rfl, rfl⟩
    | succ i =>
      have h := ih i (by simpa using hi)
      have e : ∀ q, (encLD (m :: l))[q + 4]? = (encLD l)[q]? := fun q => by simp only [encLD, List.flatMap_cons, encD]; rfl
      rw [nthD_succ, show (i + 1) * 4 = i * 4 + 4 by omega, e, show i * 4 + 4 + 1 = i * 4 + 1 + 4 by omega, e, show i * 4 + 4 + 2 = i * 4 + 2 + 4 by omega, e, show i * 4 + 4 + 3 = i * 4 + 3 + 4 by omega, e]
      exact h
theorem encLD_app (l k : List Dt) : encLD (l ++ k) = encLD l ++ encLD k := by simp [encLD]
theorem encLD_one (m : Dt) : encLD [m] = encD m := by simp [encLD]
theorem encLD_cells (l : List Dt) : ∀ u ∈ encLD l, u.oneCell' = true := by
  intro u hu
  obtain ⟨m, _, hm⟩ := List.mem_flatMap.1 hu
  simp [encD] at hm
  rcases hm with rfl | rfl | rfl | rfl <;> rfl
theorem Ds.encs {w : World} {a : Option Addr} {n b off : Nat} {l : List Dt} (h : Ds w a n b off l) : ∀ j u, (encLD l)[j]? = some u → w.cell? ⟨b, off + j, none⟩ = some u := by
  intro j u hu
  have hj := (List.getElem?_eq_some_iff.1 hu).1
  rw [encLD_len, h.1] at hj
  obtain ⟨c0, c1, c2, c3⟩ := h.2.2 (j / 4) (by omega)
  obtain ⟨e0, e1, e2, e3⟩ := encLD_get l (j / 4) (by rw [h.1]; omega)
  have hm : j % 4 = 0 ∨ j % 4 = 1 ∨ j % 4 = 2 ∨ j % 4 = 3 := by omega
  rcases hm with hm | hm | hm | hm
  · have ej : j / 4 * 4 = j := by omega
    rw [ej] at c0; rw [ej] at e0; rw [c0, ← e0]; exact hu
  · have ej : j / 4 * 4 + 1 = j := by omega
    rw [Nat.add_assoc, ej] at c1; rw [ej] at e1; rw [c1, ← e1]; exact hu
  · have ej : j / 4 * 4 + 2 = j := by omega
    rw [Nat.add_assoc, ej] at c2; rw [ej] at e2; rw [c2, ← e2]; exact hu
  · have ej : j / 4 * 4 + 3 = j := by omega
    rw [Nat.add_assoc, ej] at c3; rw [ej] at e3; rw [c3, ← e3]; exact hu
theorem Ds.zero (w : World) (a : Option Addr) : Ds w a 0 0 0 [] := ⟨rfl, fun h => by omega, fun i hi => by omega⟩
theorem nthD_take {l : List Dt} {k i : Nat} (h : i < k) : nthD (l.take k) i = nthD l i := by simp [nthD, List.getD_eq_getElem?_getD, h]
theorem nthD_drop {l : List Dt} {k i : Nat} : nthD (l.drop k) i = nthD l (k + i) := by simp [nthD, List.getD_eq_getElem?_getD]
theorem Ds.pre {w : World} {a : Option Addr} {n b off : Nat} {l : List Dt} (h : Ds w a n b off l) {k : Nat} (hk : k ≤ n) : Ds w a k b off (l.take k) :=
  ⟨by have := h.1; simp; omega, fun h0 => h.2.1 (by omega), fun i hi => by rw [nthD_take hi]; exact h.2.2 i (by omega)⟩
theorem Ds.post {w : World} {a : Option Addr} {n b off : Nat} {l : List Dt} (h : Ds w a n b off l) {k cap : Nat} (hk : k ≤ n) (hc : n ≤ cap) (hn : a = none → cap = 0) :
    ∃ b3 o3, Ds w (if cap = k then a else a.map (·.add (k * 4))) (n - k) b3 o3 (l.drop k) ∧ ((if cap = k then a else a.map (·.add (k * 4))) = none → cap - k = 0) := by
  have hz : (if cap = k then a else a.map (·.add (k * 4))) = none → cap - k = 0 := by
    intro e
    by_cases hck : cap = k
    · omega
    · rw [if_neg hck] at e
      cases a with
      | none => have := hn rfl; omega
      | some p => cases e
  rcases Nat.eq_zero_or_pos (n - k) with h0 | h0
  · refine ⟨0, 0, ?_, hz⟩
    rw [h0, List.drop_of_length_le (by have := h.1; omega)]
    exact Ds.zero w _
  · obtain ⟨rfl, hbw⟩ := h.2.1 (by omega)
    refine ⟨b, off + k * 4, ⟨by have := h.1; simp; omega, fun _ => ⟨?_, hbw⟩, fun i hi => ?_⟩, hz⟩
    · rw [if_neg (by omega)]
      show some (Addr.add ⟨b, off, none⟩ (k * 4)) = _
      rw [Go.WideShapes.add_plain]
    · rw [nthD_drop]
      have := h.2.2 (k + i) (by omega)
      rwa [show off + (k + i) * 4 = off + k * 4 + i * 4 by omega] at this
theorem Ds.lit (w : World) (cs : Array Value) (l : List Dt) (n : Nat) (hn : l.length = n) (hcs : ∀ i, i < n → cs[i * 4]? = some (.int .i64 (nthD l i).1) ∧ cs[i * 4 + 1]? = some (.int .i64 (nthD l i).2.1) ∧ cs[i * 4 + 2]? = some (.int .i64 (nthD l i).2.2.1) ∧ cs[i * 4 + 3]? = some (.int .i64 (nthD l i).2.2.2)) :
    Ds (w.alloc (.cells cs 52)) (some ⟨w.heap.size, 0, none⟩) n w.heap.size 0 l :=
  ⟨hn, fun _ => ⟨rfl, by simp⟩, fun i hi => by
    obtain ⟨h0, h1, h2, h3⟩ := hcs i hi
    have hc := fun j => cell_of_row _ w.heap.size j cs 52 (0, 0) (heap_alloc_new w (.cells cs 52))
    simp only [Nat.zero_add]
    exact ⟨(hc _).trans h0, (hc _).trans h1, (hc _).trans h2, (hc _).trans h3⟩⟩

theorem info_D : (Try.prog.info? 52).map (fun i => (i.zero, i.size, i.bytes)) = some (some (.agg #[.int .i64 0, .int .i64 0, .int .i64 0, .int .i64 0]), 4, 32) := by kernel_rfl

def DsO (w : World) (B : Nat) (v : Value) (l : List Dt) : Prop := w.ownsRow B 52 4 v l.length (encLD l)
theorem DsO.nil (w : World) (B : Nat) : DsO w B (.slice none 0 0) [] := World.ownsRow_nil _ _ _ _
theorem DsO.empty (w : World) (fr : Nat × Nat := (0, 0)) (hf : fr = (0, 0) := by rfl) : DsO (w.alloc (.cells #[] 52 fr)) w.heap.size (.slice (some ⟨w.heap.size, 0, none⟩) 0 0) [] := by
  subst hf
  exact ⟨rfl, .inr ⟨w.heap.size, 0, #[], rfl, Nat.le_refl _, heap_alloc_new w _, Nat.le_refl _, by simp [maxLen], rfl, rfl⟩⟩
theorem DsO.alloc {w : World} {B : Nat} {v : Value} {l : List Dt} (h : DsO w B v l) (o : Obj) : DsO (w.alloc o) B v l := World.ownsRow.alloc h o
theorem DsO.mono {w : World} {B B' : Nat} {v : Value} {l : List Dt} (h : DsO w B v l) (hB : B' ≤ B) : DsO w B' v l := by
  refine ⟨h.1, ?_⟩
  rcases h.2 with h0 | ⟨g, cap, cur, h1, h2, h3⟩
  · exact .inl h0
  · exact .inr ⟨g, cap, cur, h1, Nat.le_trans hB h2, h3⟩
theorem DsO.below {w w' : World} {B B' : Nat} {v : Value} {l : List Dt} (h : DsO w B v l) (hb : Below B' w w') (hB : w.heap.size ≤ B') : DsO w' B v l := by
  refine ⟨h.1, ?_⟩
  rcases h.2 with h0 | ⟨g, cap, cur, h1, h2, h3, h4⟩
  · exact .inl h0
  · refine .inr ⟨g, cap, cur, h1, h2, ?_, h4⟩
    have hlt := (Array.getElem?_eq_some_iff.1 h3).1
    exact (hb.block g (by omega)).trans h3
theorem DsO.s {w : World} {B : Nat} {v : Value} {l : List Dt} (h : DsO w B v l) : ∃ a b cap, v = .slice a l.length cap ∧ Ds w a l.length b 0 l ∧ (0 < l.length → ∃ c tb fr, w.heap[b]? = some (.cells c tb fr)) ∧ (a = none → cap = 0) ∧ l.length ≤ cap ∧ cap ≤ maxLen := by
  rcases h.2 with ⟨h0, hn⟩ | ⟨g, cap, cur, h1, h2, h3, h4, h5, h6, h7⟩
  · exact ⟨none, 0, 0, by rw [hn]; exact h0, ⟨rfl, fun h => by omega, fun i hi => by omega⟩, fun h => by omega, fun _ => rfl, by omega, by simp [maxLen]⟩
  · refine ⟨some ⟨g, 0, none⟩, g, cap, h1, ⟨rfl, fun _ => ⟨rfl, (Array.getElem?_eq_some_iff.1 h3).1⟩, fun i hi => ?_⟩, fun _ => ⟨_, _, _, h3⟩, fun h => (by cases h), h4, h5⟩
    subst h1
    obtain ⟨e0, e1, e2, e3⟩ := encLD_get l i hi
    have c0 := World.ownsRow.cellAt h (i * 4) (by omega)
    have c1 := World.ownsRow.cellAt h (i * 4 + 1) (by omega)
    have c2 := World.ownsRow.cellAt h (i * 4 + 2) (by omega)
    have c3 := World.ownsRow.cellAt h (i * 4 + 3) (by omega)
    rw [Nat.zero_add]
    exact ⟨c0.trans e0, c1.trans e1, c2.trans e2, c3.trans e3⟩
theorem DsO.cellAt {w : World} {B g n c : Nat} {l : List Dt} (h : DsO w B (.slice (some ⟨g, 0, none⟩) n c) l) (hn : l.length = n) (j : Nat) (hj : j < n * 4) : w.cell? ⟨g, j, none⟩ = (encLD l)[j]? := by
  subst hn
  exact World.ownsRow.cellAt h j hj
theorem DsO.freeAt {w : World} {B g n c : Nat} {l : List Dt} (h : DsO w B (.slice (some ⟨g, 0, none⟩) n c) l) (hn : l.length = n) (i : Nat) : w.frozen? ⟨g, i, none⟩ = false := by
  subst hn
  exact World.ownsRow.frozenAt h i
theorem DsO.inBlock {w : World} {B n : Nat} {v : Value} {l : List Dt} (h : DsO w B v l) (hl : l.length = n) (hn : 0 < n) : ∃ g c, v = .slice (some ⟨g, 0, none⟩) n c ∧ B ≤ g := by
  subst hl
  rcases h.2 with ⟨_, h0⟩ | ⟨g, cap, cur, h1, h2, _⟩
  · omega
  · exact ⟨g, cap, h1, h2⟩
theorem encLD_set (m : Dt) : ∀ (l : List Dt) (i : Nat), i < l.length → encLD (l.set i m) = (((((encLD l).set (i * 4) (.int .i64 m.1)).set (i * 4 + 1) (.int .i64 m.2.1)).set (i * 4 + 2) (.int .i64 m.2.2.1)).set (i * 4 + 3) (.int .i64 m.2.2.2)) := by
  intro l
  induction l with
  | nil => intro i h; simp at h
  | cons p l ih =>
    intro i h
    cases i with
    | zero => rfl
    | succ i =>
      have hh := ih i (by simpa using h)
      have e : encLD (p :: l) = encD p ++ encLD l := by simp [encLD]
      have e2 : encLD (p :: l.set i m) = encD p ++ encLD (l.set i m) := by simp [encLD]
      rw [List.set_cons_succ, e2, hh, e]
      have k : ∀ (q : Nat) (v : Value) (xs : List Value), (encD p ++ xs).set (q + 4) v = encD p ++ xs.set q v := fun q v xs => by
        rw [List.set_append_right _ _ (by simp [encD])]; simp [encD]
      rw [show (i + 1) * 4 = i * 4 + 4 by omega, k, show i * 4 + 4 + 1 = i * 4 + 1 + 4 by omega, k, show i * 4 + 4 + 2 = i * 4 + 2 + 4 by omega, k, show i * 4 + 4 + 3 = i * 4 + 3 + 4 by omega, k]
theorem DsO.stored {w : World} {B g n c : Nat} {l : List Dt} (h : DsO w B (.slice (some ⟨g, 0, none⟩) n c) l) (hn : l.length = n) (i : Nat) (hi : i < n) (m : Dt) :
    DsO ((((w.setCell ⟨g, i * 4, none⟩ (.int .i64 m.1)).setCell ⟨g, i * 4 + 1, none⟩ (.int .i64 m.2.1)).setCell ⟨g, i * 4 + 2, none⟩ (.int .i64 m.2.2.1)).setCell ⟨g, i * 4 + 3, none⟩ (.int .i64 m.2.2.2)) B (.slice (some ⟨g, 0, none⟩) n c) (l.set i m) := by
  subst hn
  have h1 := (World.ownsRow.stored h (i * 4) (.int .i64 m.1)).1
  have h2 := (World.ownsRow.stored h1 (i * 4 + 1) (.int .i64 m.2.1)).1
  have h3 := (World.ownsRow.stored h2 (i * 4 + 2) (.int .i64 m.2.2.1)).1
  have h4 := (World.ownsRow.stored h3 (i * 4 + 3) (.int .i64 m.2.2.2)).1
  unfold DsO
  rw [List.length_set, encLD_set m l i hi]
  exact h4
theorem cells_setD {w : World} {b i : Nat} {cs : Array Value} {v : Value} {t : TypeId} (h : w.heap[b]? = some (.cells cs t (0, 0))) : (w.setCell ⟨b, i, none⟩ v).heap[b]? = some (.cells (cs.setIfInBounds i v) t (0, 0)) := by
  have hlt := (Array.getElem?_eq_some_iff.1 h).1
  have h' : w.heap[b] = .cells cs t (0, 0) := (Array.getElem?_eq_some_iff.1 h).2
  show (w.heap.modify b _)[b]? = _
  rw [Array.getElem?_eq_getElem (by simpa using hlt), Array.getElem_modify_self, h']
  rfl
/-- A struct stored into a block of its own. -/
theorem boxD_set {w : World} {b : Nat} {x0 x1 x2 x3 u0 u1 u2 u3 : Value} {t : TypeId} (h : w.heap[b]? = some (.cells #[x0, x1, x2, x3] t (0, 0))) : ((((w.setCell ⟨b, 0, none⟩ u0).setCell ⟨b, 1, none⟩ u1).setCell ⟨b, 2, none⟩ u2).setCell ⟨b, 3, none⟩ u3).heap[b]? = some (.cells #[u0, u1, u2, u3] t (0, 0)) :=
  (cells_setD (cells_setD (cells_setD (cells_setD h))))
theorem boxD_far {w : World} {b q : Nat} {u0 u1 u2 u3 : Value} {o : Obj} (hq : q ≠ b) (h : w.heap[q]? = some o) : ((((w.setCell ⟨b, 0, none⟩ u0).setCell ⟨b, 1, none⟩ u1).setCell ⟨b, 2, none⟩ u2).setCell ⟨b, 3, none⟩ u3).heap[q]? = some o :=
  ((Below.heap_setCell _ _ _ _ hq).trans ((Below.heap_setCell _ _ _ _ hq).trans ((Below.heap_setCell _ _ _ _ hq).trans ((Below.heap_setCell _ _ _ _ hq).trans h))))
theorem boxD_below {B : Nat} {a w : World} {b : Nat} {u0 u1 u2 u3 : Value} (hb : B ≤ b) (h : Below B a w) : Below B a ((((w.setCell ⟨b, 0, none⟩ u0).setCell ⟨b, 1, none⟩ u1).setCell ⟨b, 2, none⟩ u2).setCell ⟨b, 3, none⟩ u3) :=
  ((((h.setCell (p := ⟨b, 0, none⟩) hb _).setCell (p := ⟨b, 1, none⟩) hb _).setCell (p := ⟨b, 2, none⟩) hb _).setCell (p := ⟨b, 3, none⟩) hb _)

section
variable {ops : Array Oper} {o : Oper} {rest : List Oper} {a : Act} {Q : Exit → Act → World → Prop} {w : World}
theorem wp_append_D {K : Act → World → Prop} (s x : Operand) (ho : o.op = .call { callee := .builtin .append, args := #[s, x], argTypes := #[24, 24] })
    (B : Nat) (v : Value) (l : List Dt) (hs : a.eval s = v) (hown : DsO w B v l) (g : Nat) (m : Dt) (hx : a.eval x = .slice (some ⟨g, 0, none⟩) 1 1) (tb : TypeId) (fr : Nat × Nat)
    (hc : w.heap[g]? = some (.cells #[.int .i64 m.1, .int .i64 m.2.1, .int .i64 m.2.2.1, .int .i64 m.2.2.2] tb fr)) (hlen : l.length ≤ 1200000) (hB : B ≤ w.heap.size)
    (h : ∀ v' w', DsO w' B v' (l ++ [m]) → Below B w w' → w.grownBy w' v.ownBlock → K (a.put o.dst v') w') : o.wp Try.prog a w K Q := by
  obtain ⟨i0, hi, hz0, hz1, hz2⟩ := info_parts info_D
  refine wp_append_own w s x 24 ho B 52 i0 (.agg #[.int .i64 0, .int .i64 0, .int .i64 0, .int .i64 0]) 4 32 Try.underlying24 hi hz0 hz1 hz2 rfl (by decide) v l.length _ hs hown ⟨g, 0, none⟩ 1 1 (encD m) hx rfl ?_ ?_ (by unfold maxLen; omega) (by omega) hB ?_
  · exact fun j u hj => World.news_of_block hc j u (by simpa [encD] using hj)
  · intro u hu; exact encLD_cells [m] u (by rw [encLD_one]; exact hu)
  · intro v' w' h1 h2 _
    refine h v' w' ?_ ((Below.refl B w).grown h2 hB fun k hk => (World.ownsRow.lt hown k hk).1) h2
    unfold DsO
    rw [encLD_app, encLD_one, List.length_append]
    exact h1
theorem wp_append_Ds {K : Act → World → Prop} (s x : Operand) (ho : o.op = .call { callee := .builtin .append, args := #[s, x], argTypes := #[24, 24] })
    (B : Nat) (v : Value) (l : List Dt) (hs : a.eval s = v) (hown : DsO w B v l) (ax : Option Addr) (b off n c : Nat) (l2 : List Dt) (hx : a.eval x = .slice ax n c) (hr : Ds w ax n b off l2) (hnc : ax = none → c = 0)
    (hlen : l.length + n ≤ 1200000) (hB : B ≤ w.heap.size)
    (h : ∀ v' w', DsO w' B v' (l ++ l2) → Below B w w' → w.grownBy w' v.ownBlock → K (a.put o.dst v') w') : o.wp Try.prog a w K Q := by
  obtain ⟨i0, hi, hz0, hz1, hz2⟩ := info_parts info_D
  cases ax with
  | none =>
    obtain rfl : c = 0 := hnc rfl
    obtain rfl : n = 0 := by
      rcases Nat.eq_zero_or_pos n with h0 | h0
      · exact h0
      · have := (hr.2.1 h0).1; cases this
    obtain rfl : l2 = [] := List.eq_nil_of_length_eq_zero hr.1
    have hrun := run_append_owned_none (P := Try.prog) (w := w) B 24 o.type 52 i0 4 Try.underlying24 hi v l.length _ hown
    unfold Oper.wp
    simp [execOp, ho, resolve, invoke, builtin, hs, hx, hrun, Result.andThen]
    exact h v w (by rw [List.append_nil]; exact hown) (Below.refl _ _) ⟨rfl, rfl, rfl, Nat.le_refl _, fun _ _ _ => rfl⟩
  | some ad =>
    refine wp_append_own w s x 24 ho B 52 i0 (.agg #[.int .i64 0, .int .i64 0, .int .i64 0, .int .i64 0]) 4 32 Try.underlying24 hi hz0 hz1 hz2 rfl (by decide) v l.length _ hs hown ad n c (encLD l2) hx (by rw [encLD_len, hr.1]) ?_ (encLD_cells l2) (by unfold maxLen; omega) (by omega) hB ?_
    · intro j u hj
      have hn : 0 < n := by
        have := (List.getElem?_eq_some_iff.1 hj).1
        rw [encLD_len, hr.1] at this; omega
      have he := (hr.2.1 hn).1
      cases he
      rw [Go.WideShapes.add_plain]
      exact hr.encs j u hj
    · intro v' w' h1 h2 _
      refine h v' w' ?_ ((Below.refl B w).grown h2 hB fun k hk => (World.ownsRow.lt hown k hk).1) h2
      unfold DsO
      rw [encLD_app, List.length_append, hr.1]
      exact h1
theorem wpList_append_D (hgd : o.guard = none) (s x : Operand) (ho : o.op = .call { callee := .builtin .append, args := #[s, x], argTypes := #[24, 24] })
    (B : Nat) (v : Value) (l : List Dt) (hs : a.eval s = v) (hown : DsO w B v l) (g : Nat) (m : Dt) (hx : a.eval x = .slice (some ⟨g, 0, none⟩) 1 1) (tb : TypeId) (fr : Nat × Nat)
    (hc : w.heap[g]? = some (.cells #[.int .i64 m.1, .int .i64 m.2.1, .int .i64 m.2.2.1, .int .i64 m.2.2.2] tb fr)) (hlen : l.length ≤ 1200000) (hB : B ≤ w.heap.size)
    (h : ∀ v' w', DsO w' B v' (l ++ [m]) → Below B w w' → w.grownBy w' v.ownBlock → wpList Try.prog ops Q rest (a.put o.dst v') w') : wpList Try.prog ops Q (o :: rest) a w :=
  wpList_plain hgd fun _ hK => wp_append_D s x ho B v l hs hown g m hx tb fr hc hlen hB fun v' w' h1 h2 h3 => hK _ _ (h v' w' h1 h2 h3)
theorem wpList_append_Ds (hgd : o.guard = none) (s x : Operand) (ho : o.op = .call { callee := .builtin .append, args := #[s, x], argTypes := #[24, 24] })
    (B : Nat) (v : Value) (l : List Dt) (hs : a.eval s = v) (hown : DsO w B v l) (ax : Option Addr) (b off n c : Nat) (l2 : List Dt) (hx : a.eval x = .slice ax n c) (hr : Ds w ax n b off l2) (hnc : ax = none → c = 0)
    (hlen : l.length + n ≤ 1200000) (hB : B ≤ w.heap.size)
    (h : ∀ v' w', DsO w' B v' (l ++ l2) → Below B w w' → w.grownBy w' v.ownBlock → wpList Try.prog ops Q rest (a.put o.dst v') w') : wpList Try.prog ops Q (o :: rest) a w :=
  wpList_plain hgd fun _ hK => wp_append_Ds s x ho B v l hs hown ax b off n c l2 hx hr hnc hlen hB fun v' w' h1 h2 h3 => hK _ _ (h v' w' h1 h2 h3)
end
end Go.Proofs.Ythnhnmmabjmjgaa
