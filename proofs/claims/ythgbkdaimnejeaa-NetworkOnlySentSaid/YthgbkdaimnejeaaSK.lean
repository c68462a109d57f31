/- Slices of api.Packet: in memory, and of a function's own. Made by tools/gen_struct.py. -/
import Derived.Test.YthgbkdaimnejeaaBase
import Derived.OwnWalk
import Derived.Deep.AppendLies
import Derived.ArgAppend
import Derived.Laws.AppendOwnNone
import Derived.Laws.OwnMore
namespace Go.Proofs.Ythgbkdaimnejeaa
open Go.ChangeShapes Go.WideShapes Go.ChangeAt Go.RowKit

abbrev Kt := Int × Int × (Option Addr × Nat × Nat)
def nthK (l : List Kt) (i : Nat) : Kt := l.getD i (0, 0, (none, 0, 0))
def Ks (w : World) (a : Option Addr) (n : Nat) (b off : Nat) (l : List Kt) : Prop :=
  l.length = n ∧ (0 < n → a = some ⟨b, off, none⟩ ∧ b < w.heap.size) ∧
  ∀ i, i < n → w.cell? ⟨b, off + i * 3, none⟩ = some (.int .i64 (nthK l i).1) ∧ w.cell? ⟨b, off + i * 3 + 1, none⟩ = some (.int .i64 (nthK l i).2.1) ∧ w.cell? ⟨b, off + i * 3 + 2, none⟩ = some (.slice (nthK l i).2.2.1 (nthK l i).2.2.2.1 (nthK l i).2.2.2.2)
theorem Ks.below {B : Nat} {w w' : World} {a : Option Addr} {n b off : Nat} {l : List Kt} (h : Ks w a n b off l) (hb : Below B w w') (hB : b < B) : Ks w' a n b off l :=
  ⟨h.1, fun k => ⟨(h.2.1 k).1, Nat.lt_of_lt_of_le (h.2.1 k).2 hb.size⟩, fun i hi => by
    obtain ⟨h0, h1, h2⟩ := h.2.2 i hi
    exact ⟨(hb.cell (p := ⟨b, _, none⟩) hB).trans h0, (hb.cell (p := ⟨b, _, none⟩) hB).trans h1, (hb.cell (p := ⟨b, _, none⟩) hB).trans h2⟩⟩
theorem Ks.grown {w w' : World} {a : Option Addr} {n b off : Nat} {l : List Kt} (h : Ks w a n b off l) (hb : Below w.heap.size w w') : Ks w' a n b off l := by
  by_cases hn : 0 < n
  · exact h.below hb (h.2.1 hn).2
  · exact ⟨h.1, fun k => absurd k hn, fun i hi => absurd hi (by omega)⟩
def encK (m : Kt) : List Value := [.int .i64 m.1, .int .i64 m.2.1, .slice m.2.2.1 m.2.2.2.1 m.2.2.2.2]
def encLK (l : List Kt) : List Value := l.flatMap encK
theorem encLK_len (l : List Kt) : (encLK l).length = l.length * 3 := by
  induction l with
  | nil => rfl
  | cons m l ih => simp only [encLK, List.flatMap_cons, List.length_append, List.length_cons] at *; rw [ih]; simp [encK]; omega
theorem nthK_succ (m : Kt) (l : List Kt) (i : Nat) : nthK (m :: l) (i + 1) = nthK l i := by simp [nthK]
theorem encLK_get (l : List Kt) : ∀ i, i < l.length → (encLK l)[i * 3]? = some (.int .i64 (nthK l i).1) ∧ (encLK l)[i * 3 + 1]? = some (.int .i64 (nthK l i).2.1) ∧ (encLK l)[i * 3 + 2]? = some (.slice (nthK l i).2.2.1 (nthK l i).2.2.2.1 (nthK l i).2.2.2.2) := by
  induction l with
  | nil => intro i hi; simp at hi
  | cons m l ih =>
    intro i hi
    cases i with
    | zero => exact ⟨rfl, rfl, rfl⟩
    | succ i =>
      have h := ih i (by simpa using hi)
      have e : ∀ q, (encLK (m :: l))[q + 3]? = (encLK l)[q]? := fun q => by simp only [encLK, List.flatMap_cons, encK]; rfl
      rw [nthK_succ, show (i + 1) * 3 = i * 3 + 3 by omega, e, show i * 3 + 3 + 1 = i * 3 + 1 + 3 by omega, e, show i * 3 + 3 + 2 = i * 3 + 2 + 3 by omega, e]
      exact h
theorem encLK_app (l k : List Kt) : encLK (l ++ k) = encLK l ++ encLK k := by simp [encLK]
theorem encLK_one (m : Kt) : encLK [m] = encK m := by simp [encLK]
theorem encLK_cells (l : List Kt) : ∀ u ∈ encLK l, u.oneCell' = true := by
  intro u hu
  obtain ⟨m, _, hm⟩ := List.mem_flatMap.1 hu
  simp [encK] at hm
  rcases hm with rfl | rfl | rfl <;> rfl
theorem Ks.encs {w : World} {a : Option Addr} {n b off : Nat} {l : List Kt} (h : Ks w a n b off l) : ∀ j u, (encLK l)[j]? = some u → w.cell? ⟨b, off + j, none⟩ = some u := by
  intro j u hu
  have hj := (List.getElem?_eq_some_iff.1 hu).1
  rw [encLK_len, h.1] at hj
  obtain ⟨c0, c1, c2⟩ := h.2.2 (j / 3) (by omega)
  obtain ⟨e0, e1, e2⟩ := encLK_get l (j / 3) (by rw [h.1]; omega)
  have hm : j % 3 = 0 ∨ j % 3 = 1 ∨ j % 3 = 2 := by omega
  rcases hm with hm | hm | hm
  · have ej : j / 3 * 3 = j := by omega
    rw [ej] at c0; rw [ej] at e0; rw [c0, ← e0]; exact hu
  · have ej : j / 3 * 3 + 1 = j := by omega
    rw [Nat.add_assoc, ej] at c1; rw [ej] at e1; rw [c1, ← e1]; exact hu
  · have ej : j / 3 * 3 + 2 = j := by omega
    rw [Nat.add_assoc, ej] at c2; rw [ej] at e2; rw [c2, ← e2]; exact hu
theorem Ks.zero (w : World) (a : Option Addr) : Ks w a 0 0 0 [] := ⟨rfl, fun h => by omega, fun i hi => by omega⟩
theorem nthK_take {l : List Kt} {k i : Nat} (h : i < k) : nthK (l.take k) i = nthK l i := by simp [nthK, List.getD_eq_getElem?_getD, h]
theorem nthK_drop {l : List Kt} {k i : Nat} : nthK (l.drop k) i = nthK l (k + i) := by simp [nthK, List.getD_eq_getElem?_getD]
theorem Ks.pre {w : World} {a : Option Addr} {n b off : Nat} {l : List Kt} (h : Ks w a n b off l) {k : Nat} (hk : k ≤ n) : Ks w a k b off (l.take k) :=
  ⟨by have := h.1; simp; omega, fun h0 => h.2.1 (by omega), fun i hi => by rw [nthK_take hi]; exact h.2.2 i (by omega)⟩
theorem Ks.post {w : World} {a : Option Addr} {n b off : Nat} {l : List Kt} (h : Ks w a n b off l) {k cap : Nat} (hk : k ≤ n) (hc : n ≤ cap) (hn : a = none → cap = 0) :
    ∃ b3 o3, Ks w (if cap = k then a else a.map (·.add (k * 3))) (n - k) b3 o3 (l.drop k) ∧ ((if cap = k then a else a.map (·.add (k * 3))) = none → cap - k = 0) := by
  have hz : (if cap = k then a else a.map (·.add (k * 3))) = none → cap - k = 0 := by
    intro e
    by_cases hck : cap = k
    · omega
    · rw [if_neg hck] at e
      cases a with
      | none => have := hn rfl; omega
      | some p => cases e
  rcases Nat.eq_zero_or_pos (n - k) with h0 | h0
  · refine ⟨0, 0, ?_, hz⟩
    rw [h0, List.drop_of_length_le (by have := h.1; omega)]
    exact Ks.zero w _
  · obtain ⟨rfl, hbw⟩ := h.2.1 (by omega)
    refine ⟨b, off + k * 3, ⟨by have := h.1; simp; omega, fun _ => ⟨?_, hbw⟩, fun i hi => ?_⟩, hz⟩
    · rw [if_neg (by omega)]
      show some (Addr.add ⟨b, off, none⟩ (k * 3)) = _
      rw [Go.WideShapes.add_plain]
    · rw [nthK_drop]
      have := h.2.2 (k + i) (by omega)
      rwa [show off + (k + i) * 3 = off + k * 3 + i * 3 by omega] at this
theorem Ks.lit (w : World) (cs : Array Value) (l : List Kt) (n : Nat) (hn : l.length = n) (hcs : ∀ i, i < n → cs[i * 3]? = some (.int .i64 (nthK l i).1) ∧ cs[i * 3 + 1]? = some (.int .i64 (nthK l i).2.1) ∧ cs[i * 3 + 2]? = some (.slice (nthK l i).2.2.1 (nthK l i).2.2.2.1 (nthK l i).2.2.2.2)) :
    Ks (w.alloc (.cells cs 28)) (some ⟨w.heap.size, 0, none⟩) n w.heap.size 0 l :=
  ⟨hn, fun _ => ⟨rfl, by simp⟩, fun i hi => by
    obtain ⟨h0, h1, h2⟩ := hcs i hi
    have hc := fun j => cell_of_row _ w.heap.size j cs 28 (0, 0) (heap_alloc_new w (.cells cs 28))
    simp only [Nat.zero_add]
    exact ⟨(hc _).trans h0, (hc _).trans h1, (hc _).trans h2⟩⟩

theorem info_K : (Try.prog.info? 28).map (fun i => (i.zero, i.size, i.bytes)) = some (some (.agg #[.int .i64 0, .int .i64 0, .slice none 0 0]), 3, 40) := by kernel_rfl

def KsO (w : World) (B : Nat) (v : Value) (l : List Kt) : Prop := w.ownsRow B 28 3 v l.length (encLK l)
theorem KsO.nil (w : World) (B : Nat) : KsO w B (.slice none 0 0) [] := World.ownsRow_nil _ _ _ _
theorem KsO.empty (w : World) (fr : Nat × Nat := (0, 0)) (hf : fr = (0, 0) := by rfl) : KsO (w.alloc (.cells #[] 28 fr)) w.heap.size (.slice (some ⟨w.heap.size, 0, none⟩) 0 0) [] := by
  subst hf
  exact ⟨rfl, .inr ⟨w.heap.size, 0, #[], rfl, Nat.le_refl _, heap_alloc_new w _, Nat.le_refl _, by simp [maxLen], rfl, rfl⟩⟩
theorem KsO.alloc {w : World} {B : Nat} {v : Value} {l : List Kt} (h : KsO w B v l) (o : Obj) : KsO (w.alloc o) B v l := World.ownsRow.alloc h o
theorem KsO.mono {w : World} {B B' : Nat} {v : Value} {l : List Kt} (h : KsO w B v l) (hB : B' ≤ B) : KsO w B' v l := by
  refine ⟨h.1, ?_⟩
  rcases h.2 with h0 | ⟨g, cap, cur, h1, h2, h3⟩
  · exact .inl h0
  · exact .inr ⟨g, cap, cur, h1, Nat.le_trans hB h2, h3⟩
theorem KsO.below {w w' : World} {B B' : Nat} {v : Value} {l : List Kt} (h : KsO w B v l) (hb : Below B' w w') (hB : w.heap.size ≤ B') : KsO w' B v l := by
  refine ⟨h.1, ?_⟩
  rcases h.2 with h0 | ⟨g, cap, cur, h1, h2, h3, h4⟩
  · exact .inl h0
  · refine .inr ⟨g, cap, cur, h1, h2, ?_, h4⟩
    have hlt := (Array.getElem?_eq_some_iff.1 h3).1
    exact (hb.block g (by omega)).trans h3
theorem KsO.s {w : World} {B : Nat} {v : Value} {l : List Kt} (h : KsO w B v l) : ∃ a b cap, v = .slice a l.length cap ∧ Ks w a l.length b 0 l ∧ (0 < l.length → ∃ c tb fr, w.heap[b]? = some (.cells c tb fr)) ∧ (a = none → cap = 0) ∧ l.length ≤ cap ∧ cap ≤ maxLen := by
  rcases h.2 with ⟨h0, hn⟩ | ⟨g, cap, cur, h1, h2, h3, h4, h5, h6, h7⟩
  · exact ⟨none, 0, 0, by rw [hn]; exact h0, ⟨rfl, fun h => by omega, fun i hi => by omega⟩, fun h => by omega, fun _ => rfl, by omega, by simp [maxLen]⟩
  · refine ⟨some ⟨g, 0, none⟩, g, cap, h1, ⟨rfl, fun _ => ⟨rfl, (Array.getElem?_eq_some_iff.1 h3).1⟩, fun i hi => ?_⟩, fun _ => ⟨_, _, _, h3⟩, fun h => (by cases h), h4, h5⟩
    subst h1
    obtain ⟨e0, e1, e2⟩ := encLK_get l i hi
    have c0 := World.ownsRow.cellAt h (i * 3) (by omega)
    have c1 := World.ownsRow.cellAt h (i * 3 + 1) (by omega)
    have c2 := World.ownsRow.cellAt h (i * 3 + 2) (by omega)
    rw [Nat.zero_add]
    exact ⟨c0.trans e0, c1.trans e1, c2.trans e2⟩
theorem KsO.cellAt {w : World} {B g n c : Nat} {l : List Kt} (h : KsO w B (.slice (some ⟨g, 0, none⟩) n c) l) (hn : l.length = n) (j : Nat) (hj : j < n * 3) : w.cell? ⟨g, j, none⟩ = (encLK l)[j]? := by
  subst hn
  exact World.ownsRow.cellAt h j hj
theorem KsO.freeAt {w : World} {B g n c : Nat} {l : List Kt} (h : KsO w B (.slice (some ⟨g, 0, none⟩) n c) l) (hn : l.length = n) (i : Nat) : w.frozen? ⟨g, i, none⟩ = false := by
  subst hn
  exact World.ownsRow.frozenAt h i
theorem KsO.inBlock {w : World} {B n : Nat} {v : Value} {l : List Kt} (h : KsO w B v l) (hl : l.length = n) (hn : 0 < n) : ∃ g c, v = .slice (some ⟨g, 0, none⟩) n c ∧ B ≤ g := by
  subst hl
  rcases h.2 with ⟨_, h0⟩ | ⟨g, cap, cur, h1, h2, _⟩
  · omega
  · exact ⟨g, cap, h1, h2⟩
theorem encLK_set (m : Kt) : ∀ (l : List Kt) (i : Nat), i < l.length → encLK (l.set i m) = ((((encLK l).set (i * 3) (.int .i64 m.1)).set (i * 3 + 1) (.int .i64 m.2.1)).set (i * 3 + 2) (.slice m.2.2.1 m.2.2.2.1 m.2.2.2.2)) := by
  intro l
  induction l with
  | nil => intro i h; simp at h
  | cons p l ih =>
    intro i h
    cases i with
    | zero => rfl
    | succ i =>
      have hh := ih i (by simpa using h)
      have e : encLK (p :: l) = encK p ++ encLK l := by simp [encLK]
      have e2 : encLK (p :: l.set i m) = encK p ++ encLK (l.set i m) := by simp [encLK]
      rw [List.set_cons_succ, e2, hh, e]
      have k : ∀ (q : Nat) (v : Value) (xs : List Value), (encK p ++ xs).set (q + 3) v = encK p ++ xs.set q v := fun q v xs => by
        rw [List.set_append_right _ _ (by simp [encK])]; simp [encK]
      rw [show (i + 1) * 3 = i * 3 + 3 by omega, k, show i * 3 + 3 + 1 = i * 3 + 1 + 3 by omega, k, show i * 3 + 3 + 2 = i * 3 + 2 + 3 by omega, k]
theorem KsO.stored {w : World} {B g n c : Nat} {l : List Kt} (h : KsO w B (.slice (some ⟨g, 0, none⟩) n c) l) (hn : l.length = n) (i : Nat) (hi : i < n) (m : Kt) :
    KsO (((w.setCell ⟨g, i * 3, none⟩ (.int .i64 m.1)).setCell ⟨g, i * 3 + 1, none⟩ (.int .i64 m.2.1)).setCell ⟨g, i * 3 + 2, none⟩ (.slice m.2.2.1 m.2.2.2.1 m.2.2.2.2)) B (.slice (some ⟨g, 0, none⟩) n c) (l.set i m) := by
  subst hn
  have h1 := (World.ownsRow.stored h (i * 3) (.int .i64 m.1)).1
  have h2 := (World.ownsRow.stored h1 (i * 3 + 1) (.int .i64 m.2.1)).1
  have h3 := (World.ownsRow.stored h2 (i * 3 + 2) (.slice m.2.2.1 m.2.2.2.1 m.2.2.2.2)).1
  unfold KsO
  rw [List.length_set, encLK_set m l i hi]
  exact h3
theorem cells_setK {w : World} {b i : Nat} {cs : Array Value} {v : Value} {t : TypeId} (h : w.heap[b]? = some (.cells cs t (0, 0))) : (w.setCell ⟨b, i, none⟩ v).heap[b]? = some (.cells (cs.setIfInBounds i v) t (0, 0)) := by
  have hlt := (Array.getElem?_eq_some_iff.1 h).1
  have h' : w.heap[b] = .cells cs t (0, 0) := (Array.getElem?_eq_some_iff.1 h).2
  show (w.heap.modify b _)[b]? = _
  rw [Array.getElem?_eq_getElem (by simpa using hlt), Array.getElem_modify_self, h']
  rfl
/-- A struct stored into a block of its own. -/
theorem boxK_set {w : World} {b : Nat} {x0 x1 x2 u0 u1 u2 : Value} {t : TypeId} (h : w.heap[b]? = some (.cells #[x0, x1, x2] t (0, 0))) : (((w.setCell ⟨b, 0, none⟩ u0).setCell ⟨b, 1, none⟩ u1).setCell ⟨b, 2, none⟩ u2).heap[b]? = some (.cells #[u0, u1, u2] t (0, 0)) :=
  (cells_setK (cells_setK (cells_setK h)))
theorem boxK_far {w : World} {b q : Nat} {u0 u1 u2 : Value} {o : Obj} (hq : q ≠ b) (h : w.heap[q]? = some o) : (((w.setCell ⟨b, 0, none⟩ u0).setCell ⟨b, 1, none⟩ u1).setCell ⟨b, 2, none⟩ u2).heap[q]? = some o :=
  ((Below.heap_setCell _ _ _ _ hq).trans ((Below.heap_setCell _ _ _ _ hq).trans ((Below.heap_setCell _ _ _ _ hq).trans h)))
theorem boxK_below {B : Nat} {a w : World} {b : Nat} {u0 u1 u2 : Value} (hb : B ≤ b) (h : Below B a w) : Below B a (((w.setCell ⟨b, 0, none⟩ u0).setCell ⟨b, 1, none⟩ u1).setCell ⟨b, 2, none⟩ u2) :=
  (((h.setCell (p := ⟨b, 0, none⟩) hb _).setCell (p := ⟨b, 1, none⟩) hb _).setCell (p := ⟨b, 2, none⟩) hb _)

section
variable {ops : Array Oper} {o : Oper} {rest : List Oper} {a : Act} {Q : Exit → Act → World → Prop} {w : World}
theorem wp_append_K {K : Act → World → Prop} (s x : Operand) (ho : o.op = .call { callee := .builtin .append, args := #[s, x], argTypes := #[22, 22] })
    (B : Nat) (v : Value) (l : List Kt) (hs : a.eval s = v) (hown : KsO w B v l) (g : Nat) (m : Kt) (hx : a.eval x = .slice (some ⟨g, 0, none⟩) 1 1) (tb : TypeId) (fr : Nat × Nat)
    (hc : w.heap[g]? = some (.cells #[.int .i64 m.1, .int .i64 m.2.1, .slice m.2.2.1 m.2.2.2.1 m.2.2.2.2] tb fr)) (hlen : l.length ≤ 1200000) (hB : B ≤ w.heap.size)
    (h : ∀ v' w', KsO w' B v' (l ++ [m]) → Below B w w' → w.grownBy w' v.ownBlock → K (a.put o.dst v') w') : o.wp Try.prog a w K Q := by
  obtain ⟨i0, hi, hz0, hz1, hz2⟩ := info_parts info_K
  refine wp_append_own w s x 22 ho B 28 i0 (.agg #[.int .i64 0, .int .i64 0, .slice none 0 0]) 3 40 Try.underlying22 hi hz0 hz1 hz2 rfl (by decide) v l.length _ hs hown ⟨g, 0, none⟩ 1 1 (encK m) hx rfl ?_ ?_ (by unfold maxLen; omega) (by omega) hB ?_
  · exact fun j u hj => World.news_of_block hc j u (by simpa [encK] using hj)
  · intro u hu; exact encLK_cells [m] u (by rw [encLK_one]; exact hu)
  · intro v' w' h1 h2 _
    refine h v' w' ?_ ((Below.refl B w).grown h2 hB fun k hk => (World.ownsRow.lt hown k hk).1) h2
    unfold KsO
    rw [encLK_app, encLK_one, List.length_append]
    exact h1
theorem wp_append_Ks {K : Act → World → Prop} (s x : Operand) (ho : o.op = .call { callee := .builtin .append, args := #[s, x], argTypes := #[22, 22] })
    (B : Nat) (v : Value) (l : List Kt) (hs : a.eval s = v) (hown : KsO w B v l) (ax : Option Addr) (b off n c : Nat) (l2 : List Kt) (hx : a.eval x = .slice ax n c) (hr : Ks w ax n b off l2) (hnc : ax = none → c = 0)
    (hlen : l.length + n ≤ 1200000) (hB : B ≤ w.heap.size)
    (h : ∀ v' w', KsO w' B v' (l ++ l2) → Below B w w' → w.grownBy w' v.ownBlock → K (a.put o.dst v') w') : o.wp Try.prog a w K Q := by
  obtain ⟨i0, hi, hz0, hz1, hz2⟩ := info_parts info_K
  cases ax with
  | none =>
    obtain rfl : c = 0 := hnc rfl
    obtain rfl : n = 0 := by
      rcases Nat.eq_zero_or_pos n with h0 | h0
      · exact h0
      · have := (hr.2.1 h0).1; cases this
    obtain rfl : l2 = [] := List.eq_nil_of_length_eq_zero hr.1
    have hrun := run_append_owned_none (P := Try.prog) (w := w) B 22 o.type 28 i0 3 Try.underlying22 hi v l.length _ hown
    unfold Oper.wp
    simp [execOp, ho, resolve, invoke, builtin, hs, hx, hrun, Result.andThen]
    exact h v w (by rw [List.append_nil]; exact hown) (Below.refl _ _) ⟨rfl, rfl, rfl, Nat.le_refl _, fun _ _ _ => rfl⟩
  | some ad =>
    refine wp_append_own w s x 22 ho B 28 i0 (.agg #[.int .i64 0, .int .i64 0, .slice none 0 0]) 3 40 Try.underlying22 hi hz0 hz1 hz2 rfl (by decide) v l.length _ hs hown ad n c (encLK l2) hx (by rw [encLK_len, hr.1]) ?_ (encLK_cells l2) (by unfold maxLen; omega) (by omega) hB ?_
    · intro j u hj
      have hn : 0 < n := by
        have := (List.getElem?_eq_some_iff.1 hj).1
        rw [encLK_len, hr.1] at this; omega
      have he := (hr.2.1 hn).1
      cases he
      rw [Go.WideShapes.add_plain]
      exact hr.encs j u hj
    · intro v' w' h1 h2 _
      refine h v' w' ?_ ((Below.refl B w).grown h2 hB fun k hk => (World.ownsRow.lt hown k hk).1) h2
      unfold KsO
      rw [encLK_app, List.length_append, hr.1]
      exact h1
theorem wpList_append_K (hgd : o.guard = none) (s x : Operand) (ho : o.op = .call { callee := .builtin .append, args := #[s, x], argTypes := #[22, 22] })
    (B : Nat) (v : Value) (l : List Kt) (hs : a.eval s = v) (hown : KsO w B v l) (g : Nat) (m : Kt) (hx : a.eval x = .slice (some ⟨g, 0, none⟩) 1 1) (tb : TypeId) (fr : Nat × Nat)
    (hc : w.heap[g]? = some (.cells #[.int .i64 m.1, .int .i64 m.2.1, .slice m.2.2.1 m.2.2.2.1 m.2.2.2.2] tb fr)) (hlen : l.length ≤ 1200000) (hB : B ≤ w.heap.size)
    (h : ∀ v' w', KsO w' B v' (l ++ [m]) → Below B w w' → w.grownBy w' v.ownBlock → wpList Try.prog ops Q rest (a.put o.dst v') w') : wpList Try.prog ops Q (o :: rest) a w :=
  wpList_plain hgd fun _ hK => wp_append_K s x ho B v l hs hown g m hx tb fr hc hlen hB fun v' w' h1 h2 h3 => hK _ _ (h v' w' h1 h2 h3)
theorem wpList_append_Ks (hgd : o.guard = none) (s x : Operand) (ho : o.op = .call { callee := .builtin .append, args := #[s, x], argTypes := #[22, 22] })
    (B : Nat) (v : Value) (l : List Kt) (hs : a.eval s = v) (hown : KsO w B v l) (ax : Option Addr) (b off n c : Nat) (l2 : List Kt) (hx : a.eval x = .slice ax n c) (hr : Ks w ax n b off l2) (hnc : ax = none → c = 0)
    (hlen : l.length + n ≤ 1200000) (hB : B ≤ w.heap.size)
    (h : ∀ v' w', KsO w' B v' (l ++ l2) → Below B w w' → w.grownBy w' v.ownBlock → wpList Try.prog ops Q rest (a.put o.dst v') w') : wpList Try.prog ops Q (o :: rest) a w :=
  wpList_plain hgd fun _ hK => wp_append_Ks s x ho B v l hs hown ax b off n c l2 hx hr hnc hlen hB fun v' w' h1 h2 h3 => hK _ _ (h v' w' h1 h2 h3)
end
end Go.Proofs.Ythgbkdaimnejeaa
