/- Slices of [2]int: in memory, and of a function's own. Made by tools/gen_struct.py. -/
import Derived.Test.YthgbkdaimnejeaaBase
import Derived.OwnWalk
import Derived.Deep.AppendLies
import Derived.ArgAppend
import Derived.Laws.AppendOwnNone
import Derived.Laws.OwnMore
namespace Go.Proofs.Ythgbkdaimnejeaa
open Go.ChangeShapes Go.WideShapes Go.ChangeAt Go.RowKit

abbrev Qt := Int × Int
def nthQ (l : List Qt) (i : Nat) : Qt := l.getD i (0, 0)
def Qs (w : World) (a : Option Addr) (n : Nat) (b off : Nat) (l : List Qt) : Prop :=
  l.length = n ∧ (0 < n → a = some ⟨b, off, none⟩ ∧ b < w.heap.size) ∧
  ∀ i, i < n → w.cell? ⟨b, off + i * 2, none⟩ = some (.int .i64 (nthQ l i).1) ∧ w.cell? ⟨b, off + i * 2 + 1, none⟩ = some (.int .i64 (nthQ l i).2)
theorem Qs.below {B : Nat} {w w' : World} {a : Option Addr} {n b off : Nat} {l : List Qt} (h : Qs w a n b off l) (hb : Below B w w') (hB : b < B) : Qs w' a n b off l :=
  ⟨h.1, fun k => ⟨(h.2.1 k).1, Nat.lt_of_lt_of_le (h.2.1 k).2 hb.size⟩, fun i hi => by
    obtain ⟨h0, h1⟩ := h.2.2 i hi
    exact ⟨(hb.cell (p := ⟨b, _, none⟩) hB).trans h0, (hb.cell (p := ⟨b, _, none⟩) hB).trans h1⟩⟩
theorem Qs.grown {w w' : World} {a : Option Addr} {n b off : Nat} {l : List Qt} (h : Qs w a n b off l) (hb : Below w.heap.size w w') : Qs w' a n b off l := by
  by_cases hn : 0 < n
  · exact h.below hb (h.2.1 hn).2
  · exact ⟨h.1, fun k => absurd k hn, fun i hi => absurd hi (by omega)⟩
def encQ (m : Qt) : List Value := [.int .i64 m.1, .int .i64 m.2]
def encLQ (l : List Qt) : List Value := l.flatMap encQ
theorem encLQ_len (l : List Qt) : (encLQ l).length = l.length * 2 := by
  induction l with
  | nil => rfl
  | cons m l ih => simp only [encLQ, List.flatMap_cons, List.length_append, List.length_cons] at *; rw [ih]; simp [encQ]; omega
theorem nthQ_succ (m : Qt) (l : List Qt) (i : Nat) : nthQ (m :: l) (i + 1) = nthQ l i := by simp [nthQ]
theorem encLQ_get (l : List Qt) : ∀ i, i < l.length → (encLQ l)[i * 2]? = some (.int .i64 (nthQ l i).1) ∧ (encLQ l)[i * 2 + 1]? = some (.int .i64 (nthQ l i).2) := by
  induction l with
  | nil => intro i hi; simp at hi
  | cons m l ih =>
    intro i hi
    cases i with
    | zero => exact ⟨rfl, rfl⟩
    | succ i =>
      have h := ih i (by simpa using hi)
      have e : ∀ q, (encLQ (m :: l))[q + 2]? = (encLQ l)[q]? := fun q => by simp only [encLQ, List.flatMap_cons, encQ]; rfl
      rw [nthQ_succ, show (i + 1) * 2 = i * 2 + 2 by omega, e, show i * 2 + 2 + 1 = i * 2 + 1 + 2 by omega, e]
      exact h
theorem encLQ_app (l k : List Qt) : encLQ (l ++ k) = encLQ l ++ encLQ k := by simp [encLQ]
theorem encLQ_one (m : Qt) : encLQ [m] = encQ m := by simp [encLQ]
theorem encLQ_cells (l : List Qt) : ∀ u ∈ encLQ l, u.oneCell' = true := by
  intro u hu
  obtain ⟨m, _, hm⟩ := List.mem_flatMap.1 hu
  simp [encQ] at hm
  rcases hm with rfl | rfl <;> rfl
theorem Qs.encs {w : World} {a : Option Addr} {n b off : Nat} {l : List Qt} (h : Qs w a n b off l) : ∀ j u, (encLQ l)[j]? = some u → w.cell? ⟨b, off + j, none⟩ = some u := by
  intro j u hu
  have hj := (List.getElem?_eq_some_iff.1 hu).1
  rw [encLQ_len, h.1] at hj
  obtain ⟨c0, c1⟩ := h.2.2 (j / 2) (by omega)
  obtain ⟨e0, e1⟩ := encLQ_get l (j / 2) (by rw [h.1]; omega)
  have hm : j % 2 = 0 ∨ j % 2 = 1 := by omega
  rcases hm with hm | hm
  · have ej : j / 2 * 2 = j := by omega
    rw [ej] at c0; rw [ej] at e0; rw [c0, ← e0]; exact hu
  · have ej : j / 2 * 2 + 1 = j := by omega
    rw [Nat.add_assoc, ej] at c1; rw [ej] at e1; rw [c1, ← e1]; exact hu
theorem Qs.zero (w : World) (a : Option Addr) : Qs w a 0 0 0 [] := ⟨rfl, fun h => by omega, fun i hi => by omega⟩
theorem nthQ_take {l : List Qt} {k i : Nat} (h : i < k) : nthQ (l.take k) i = nthQ l i := by simp [nthQ, List.getD_eq_getElem?_getD, h]
theorem nthQ_drop {l : List Qt} {k i : Nat} : nthQ (l.drop k) i = nthQ l (k + i) := by simp [nthQ, List.getD_eq_getElem?_getD]
theorem Qs.pre {w : World} {a : Option Addr} {n b off : Nat} {l : List Qt} (h : Qs w a n b off l) {k : Nat} (hk : k ≤ n) : Qs w a k b off (l.take k) :=
  ⟨by have := h.1; simp; omega, fun h0 => h.2.1 (by omega), fun i hi => by rw [nthQ_take hi]; exact h.2.2 i (by omega)⟩
theorem Qs.post {w : World} {a : Option Addr} {n b off : Nat} {l : List Qt} (h : Qs w a n b off l) {k cap : Nat} (hk : k ≤ n) (hc : n ≤ cap) (hn : a = none → cap = 0) :
    ∃ b3 o3, Qs w (if cap = k then a else a.map (·.add (k * 2))) (n - k) b3 o3 (l.drop k) ∧ ((if cap = k then a else a.map (·.add (k * 2))) = none → cap - k = 0) := by
  have hz : (if cap = k then a else a.map (·.add (k * 2))) = none → cap - k = 0 := by
    intro e
    by_cases hck : cap = k
    · omega
    · rw [if_neg hck] at e
      cases a with
      | none => have := hn rfl; omega
      | some p => cases e
  rcases Nat.eq_zero_or_pos (n - k) with h0 | h0
  · refine ⟨0, 0, ?_, hz⟩
    rw [h0, List.drop_of_length_le (by have := h.1; omega)]
    exact Qs.zero w _
  · obtain ⟨rfl, hbw⟩ := h.2.1 (by omega)
    refine ⟨b, off + k * 2, ⟨by have := h.1; simp; omega, fun _ => ⟨?_, hbw⟩, fun i hi => ?_⟩, hz⟩
    · rw [if_neg (by omega)]
      show some (Addr.add ⟨b, off, none⟩ (k * 2)) = _
      rw [Go.WideShapes.add_plain]
    · rw [nthQ_drop]
      have := h.2.2 (k + i) (by omega)
      rwa [show off + (k + i) * 2 = off + k * 2 + i * 2 by omega] at this
theorem Qs.lit (w : World) (cs : Array Value) (l : List Qt) (n : Nat) (hn : l.length = n) (hcs : ∀ i, i < n → cs[i * 2]? = some (.int .i64 (nthQ l i).1) ∧ cs[i * 2 + 1]? = some (.int .i64 (nthQ l i).2)) :
    Qs (w.alloc (.cells cs 55)) (some ⟨w.heap.size, 0, none⟩) n w.heap.size 0 l :=
  ⟨hn, fun _ => ⟨rfl, by simp⟩, fun i hi => by
    obtain ⟨h0, h1⟩ := hcs i hi
    have hc := fun j => cell_of_row _ w.heap.size j cs 55 (0, 0) (heap_alloc_new w (.cells cs 55))
    simp only [Nat.zero_add]
    exact ⟨(hc _).trans h0, (hc _).trans h1⟩⟩

theorem info_Q : (Try.prog.info? 55).map (fun i => (i.zero, i.size, i.bytes)) = some (some (.agg #[.int .i64 0, .int .i64 0]), 2, 16) := by kernel_rfl

def QsO (w : World) (B : Nat) (v : Value) (l : List Qt) : Prop := w.ownsRow B 55 2 v l.length (encLQ l)
theorem QsO.nil (w : World) (B : Nat) : QsO w B (.slice none 0 0) [] := World.ownsRow_nil _ _ _ _
theorem QsO.empty (w : World) (fr : Nat × Nat := (0, 0)) (hf : fr = (0, 0) := by rfl) : QsO (w.alloc (.cells #[] 55 fr)) w.heap.size (.slice (some ⟨w.heap.size, 0, none⟩) 0 0) [] := by
  subst hf
  exact ⟨rfl, .inr ⟨w.heap.size, 0, #[], rfl, Nat.le_refl _, heap_alloc_new w _, Nat.le_refl _, by simp [maxLen], rfl, rfl⟩⟩
theorem QsO.alloc {w : World} {B : Nat} {v : Value} {l : List Qt} (h : QsO w B v l) (o : Obj) : QsO (w.alloc o) B v l := World.ownsRow.alloc h o
theorem QsO.mono {w : World} {B B' : Nat} {v : Value} {l : List Qt} (h : QsO w B v l) (hB : B' ≤ B) : QsO w B' v l := by
  refine ⟨h.1, ?_⟩
  rcases h.2 with h0 | ⟨g, cap, cur, h1, h2, h3⟩
  · exact .inl h0
  · exact .inr ⟨g, cap, cur, h1, Nat.le_trans hB h2, h3⟩
theorem QsO.below {w w' : World} {B B' : Nat} {v : Value} {l : List Qt} (h : QsO w B v l) (hb : Below B' w w') (hB : w.heap.size ≤ B') : QsO w' B v l := by
  refine ⟨h.1, ?_⟩
  rcases h.2 with h0 | ⟨g, cap, cur, h1, h2, h3, h4⟩
  · exact .inl h0
  · refine .inr ⟨g, cap, cur, h1, h2, ?_, h4⟩
    have hlt := (Array.getElem?_eq_some_iff.1 h3).1
    exact (hb.block g (by omega)).trans h3
theorem QsO.s {w : World} {B : Nat} {v : Value} {l : List Qt} (h : QsO w B v l) : ∃ a b cap, v = .slice a l.length cap ∧ Qs w a l.length b 0 l ∧ (0 < l.length → ∃ c tb fr, w.heap[b]? = some (.cells c tb fr)) ∧ (a = none → cap = 0) ∧ l.length ≤ cap ∧ cap ≤ maxLen := by
  rcases h.2 with ⟨h0, hn⟩ | ⟨g, cap, cur, h1, h2, h3, h4, h5, h6, h7⟩
  · exact ⟨none, 0, 0, by rw [hn]; exact h0, ⟨rfl, fun h => by omega, fun i hi => by omega⟩, fun h => by omega, fun _ => rfl, by omega, by simp [maxLen]⟩
  · refine ⟨some ⟨g, 0, none⟩, g, cap, h1, ⟨rfl, fun _ => ⟨rfl, (Array.getElem?_eq_some_iff.1 h3).1⟩, fun i hi => ?_⟩, fun _ => ⟨_, _, _, h3⟩, fun h => (by cases h), h4, h5⟩
    subst h1
    obtain ⟨e0, e1⟩ := encLQ_get l i hi
    have c0 := World.ownsRow.cellAt h (i * 2) (by omega)
    have c1 := World.ownsRow.cellAt h (i * 2 + 1) (by omega)
    rw [Nat.zero_add]
    exact ⟨c0.trans e0, c1.trans e1⟩
theorem QsO.cellAt {w : World} {B g n c : Nat} {l : List Qt} (h : QsO w B (.slice (some ⟨g, 0, none⟩) n c) l) (hn : l.length = n) (j : Nat) (hj : j < n * 2) : w.cell? ⟨g, j, none⟩ = (encLQ l)[j]? := by
  subst hn
  exact World.ownsRow.cellAt h j hj
theorem QsO.freeAt {w : World} {B g n c : Nat} {l : List Qt} (h : QsO w B (.slice (some ⟨g, 0, none⟩) n c) l) (hn : l.length = n) (i : Nat) : w.frozen? ⟨g, i, none⟩ = false := by
  subst hn
  exact World.ownsRow.frozenAt h i
theorem QsO.inBlock {w : World} {B n : Nat} {v : Value} {l : List Qt} (h : QsO w B v l) (hl : l.length = n) (hn : 0 < n) : ∃ g c, v = .slice (some ⟨g, 0, none⟩) n c ∧ B ≤ g := by
  subst hl
  rcases h.2 with ⟨_, h0⟩ | ⟨g, cap, cur, h1, h2, _⟩
  · omega
  · exact ⟨g, cap, h1, h2⟩
theorem encLQ_set (m : Qt) : ∀ (l : List Qt) (i : Nat), i < l.length → encLQ (l.set i m) = (((encLQ l).set (i * 2) (.int .i64 m.1)).set (i * 2 + 1) (.int .i64 m.2)) := by
  intro l
  induction l with
  | nil => intro i h; simp at h
  | cons p l ih =>
    intro i h
    cases i with
    | zero => rfl
    | succ i =>
      have hh := ih i (by simpa using h)
      have e : encLQ (p :: l) = encQ p ++ encLQ l := by simp [encLQ]
      have e2 : encLQ (p :: l.set i m) = encQ p ++ encLQ (l.set i m) := by simp [encLQ]
      rw [List.set_cons_succ, e2, hh, e]
      have k : ∀ (q : Nat) (v : Value) (xs : List Value), (encQ p ++ xs).set (q + 2) v = encQ p ++ xs.set q v := fun q v xs => by
        rw [List.set_append_right _ _ (by simp [encQ])]; simp [encQ]
      rw [show (i + 1) * 2 = i * 2 + 2 by omega, k, show i * 2 + 2 + 1 = i * 2 + 1 + 2 by omega, k]
theorem QsO.stored {w : World} {B g n c : Nat} {l : List Qt} (h : QsO w B (.slice (some ⟨g, 0, none⟩) n c) l) (hn : l.length = n) (i : Nat) (hi : i < n) (m : Qt) :
    QsO ((w.setCell ⟨g, i * 2, none⟩ (.int .i64 m.1)).setCell ⟨g, i * 2 + 1, none⟩ (.int .i64 m.2)) B (.slice (some ⟨g, 0, none⟩) n c) (l.set i m) := by
  subst hn
  have h1 := (World.ownsRow.stored h (i * 2) (.int .i64 m.1)).1
  have h2 := (World.ownsRow.stored h1 (i * 2 + 1) (.int .i64 m.2)).1
  unfold QsO
  rw [List.length_set, encLQ_set m l i hi]
  exact h2
theorem cells_setQ {w : World} {b i : Nat} {cs : Array Value} {v : Value} {t : TypeId} (h : w.heap[b]? = some (.cells cs t (0, 0))) : (w.setCell ⟨b, i, none⟩ v).heap[b]? = some (.cells (cs.setIfInBounds i v) t (0, 0)) := by
  have hlt := (Array.getElem?_eq_some_iff.1 h).1
  have h' : w.heap[b] = .cells cs t (0, 0) := (Array.getElem?_eq_some_iff.1 h).2
  show (w.heap.modify b _)[b]? = _
  rw [Array.getElem?_eq_getElem (by simpa using hlt), Array.getElem_modify_self, h']
  rfl
/-- A struct stored into a block of its own. -/
theorem boxQ_set {w : World} {b : Nat} {x0 x1 u0 u1 : Value} {t : TypeId} (h : w.heap[b]? = some (.cells #[x0, x1] t (0, 0))) : ((w.setCell ⟨b, 0, none⟩ u0).setCell ⟨b, 1, none⟩ u1).heap[b]? = some (.cells #[u0, u1] t (0, 0)) :=
  (cells_setQ (cells_setQ h))
theorem boxQ_far {w : World} {b q : Nat} {u0 u1 : Value} {o : Obj} (hq : q ≠ b) (h : w.heap[q]? = some o) : ((w.setCell ⟨b, 0, none⟩ u0).setCell ⟨b, 1, none⟩ u1).heap[q]? = some o :=
  ((Below.heap_setCell _ _ _ _ hq).trans ((Below.heap_setCell _ _ _ _ hq).trans h))
theorem boxQ_below {B : Nat} {a w : World} {b : Nat} {u0 u1 : Value} (hb : B ≤ b) (h : Below B a w) : Below B a ((w.setCell ⟨b, 0, none⟩ u0).setCell ⟨b, 1, none⟩ u1) :=
  ((h.setCell (p := ⟨b, 0, none⟩) hb _).setCell (p := ⟨b, 1, none⟩) hb _)

section
variable {ops : Array Oper} {o : Oper} {rest : List Oper} {a : Act} {Q : Exit → Act → World → Prop} {w : World}
theorem wp_append_Q {K : Act → World → Prop} (s x : Operand) (ho : o.op = .call { callee := .builtin .append, args := #[s, x], argTypes := #[23, 23] })
    (B : Nat) (v : Value) (l : List Qt) (hs : a.eval s = v) (hown : QsO w B v l) (g : Nat) (m : Qt) (hx : a.eval x = .slice (some ⟨g, 0, none⟩) 1 1) (tb : TypeId) (fr : Nat × Nat)
    (hc : w.heap[g]? = some (.cells #[.int .i64 m.1, .int .i64 m.2] tb fr)) (hlen : l.length ≤ 1200000) (hB : B ≤ w.heap.size)
    (h : ∀ v' w', QsO w' B v' (l ++ [m]) → Below B w w' → w.grownBy w' v.ownBlock → K (a.put o.dst v') w') : o.wp Try.prog a w K Q := by
  obtain ⟨i0, hi, hz0, hz1, hz2⟩ := info_parts info_Q
  refine wp_append_own w s x 23 ho B 55 i0 (.agg #[.int .i64 0, .int .i64 0]) 2 16 Try.underlying23 hi hz0 hz1 hz2 rfl (by decide) v l.length _ hs hown ⟨g, 0, none⟩ 1 1 (encQ m) hx rfl ?_ ?_ (by unfold maxLen; omega) (by omega) hB ?_
  · exact fun j u hj => World.news_of_block hc j u (by simpa [encQ] using hj)
  · intro u hu; exact encLQ_cells [m] u (by rw [encLQ_one]; exact hu)
  · intro v' w' h1 h2 _
    refine h v' w' ?_ ((Below.refl B w).grown h2 hB fun k hk => (World.ownsRow.lt hown k hk).1) h2
    unfold QsO
    rw [encLQ_app, encLQ_one, List.length_append]
    exact h1
theorem wp_append_Qs {K : Act → World → Prop} (s x : Operand) (ho : o.op = .call { callee := .builtin .append, args := #[s, x], argTypes := #[23, 23] })
    (B : Nat) (v : Value) (l : List Qt) (hs : a.eval s = v) (hown : QsO w B v l) (ax : Option Addr) (b off n c : Nat) (l2 : List Qt) (hx : a.eval x = .slice ax n c) (hr : Qs w ax n b off l2) (hnc : ax = none → c = 0)
    (hlen : l.length + n ≤ 1200000) (hB : B ≤ w.heap.size)
    (h : ∀ v' w', QsO w' B v' (l ++ l2) → Below B w w' → w.grownBy w' v.ownBlock → K (a.put o.dst v') w') : o.wp Try.prog a w K Q := by
  obtain ⟨i0, hi, hz0, hz1, hz2⟩ := info_parts info_Q
  cases ax with
  | none =>
    obtain rfl : c = 0 := hnc rfl
    obtain rfl : n = 0 := by
      rcases Nat.eq_zero_or_pos n with h0 | h0
      · exact h0
      · have := (hr.2.1 h0).1; cases this
    obtain rfl : l2 = [] := List.eq_nil_of_length_eq_zero hr.1
    have hrun := run_append_owned_none (P := Try.prog) (w := w) B 23 o.type 55 i0 2 Try.underlying23 hi v l.length _ hown
    unfold Oper.wp
    simp [execOp, ho, resolve, invoke, builtin, hs, hx, hrun, Result.andThen]
    exact h v w (by rw [List.append_nil]; exact hown) (Below.refl _ _) ⟨rfl, rfl, rfl, Nat.le_refl _, fun _ _ _ => rfl⟩
  | some ad =>
    refine wp_append_own w s x 23 ho B 55 i0 (.agg #[.int .i64 0, .int .i64 0]) 2 16 Try.underlying23 hi hz0 hz1 hz2 rfl (by decide) v l.length _ hs hown ad n c (encLQ l2) hx (by rw [encLQ_len, hr.1]) ?_ (encLQ_cells l2) (by unfold maxLen; omega) (by omega) hB ?_
    · intro j u hj
      have hn : 0 < n := by
        have := (List.getElem?_eq_some_iff.1 hj).1
        rw [encLQ_len, hr.1] at this; omega
      have he := (hr.2.1 hn).1
      cases he
      rw [Go.WideShapes.add_plain]
      exact hr.encs j u hj
    · intro v' w' h1 h2 _
      refine h v' w' ?_ ((Below.refl B w).grown h2 hB fun k hk => (World.ownsRow.lt hown k hk).1) h2
      unfold QsO
      rw [encLQ_app, List.length_append, hr.1]
      exact h1
theorem wpList_append_Q (hgd : o.guard = none) (s x : Operand) (ho : o.op = .call { callee := .builtin .append, args := #[s, x], argTypes := #[23, 23] })
    (B : Nat) (v : Value) (l : List Qt) (hs : a.eval s = v) (hown : QsO w B v l) (g : Nat) (m : Qt) (hx : a.eval x = .slice (some ⟨g, 0, none⟩) 1 1) (tb : TypeId) (fr : Nat × Nat)
    (hc : w.heap[g]? = some (.cells #[.int .i64 m.1, .int .i64 m.2] tb fr)) (hlen : l.length ≤ 1200000) (hB : B ≤ w.heap.size)
    (h : ∀ v' w', QsO w' B v' (l ++ [m]) → Below B w w' → w.grownBy w' v.ownBlock → wpList Try.prog ops Q rest (a.put o.dst v') w') : wpList Try.prog ops Q (o :: rest) a w :=
  wpList_plain hgd fun _ hK => wp_append_Q s x ho B v l hs hown g m hx tb fr hc hlen hB fun v' w' h1 h2 h3 => hK _ _ (h v' w' h1 h2 h3)
theorem wpList_append_Qs (hgd : o.guard = none) (s x : Operand) (ho : o.op = .call { callee := .builtin .append, args := #[s, x], argTypes := #[23, 23] })
    (B : Nat) (v : Value) (l : List Qt) (hs : a.eval s = v) (hown : QsO w B v l) (ax : Option Addr) (b off n c : Nat) (l2 : List Qt) (hx : a.eval x = .slice ax n c) (hr : Qs w ax n b off l2) (hnc : ax = none → c = 0)
    (hlen : l.length + n ≤ 1200000) (hB : B ≤ w.heap.size)
    (h : ∀ v' w', QsO w' B v' (l ++ l2) → Below B w w' → w.grownBy w' v.ownBlock → wpList Try.prog ops Q rest (a.put o.dst v') w') : wpList Try.prog ops Q (o :: rest) a w :=
  wpList_plain hgd fun _ hK => wp_append_Qs s x ho B v l hs hown ax b off n c l2 hx hr hnc hlen hB fun v' w' h1 h2 h3 => hK _ _ (h v' w' h1 h2 h3)
end
end Go.Proofs.Ythgbkdaimnejeaa
