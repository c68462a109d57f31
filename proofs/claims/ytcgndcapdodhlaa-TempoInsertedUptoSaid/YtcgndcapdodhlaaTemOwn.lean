/- Slices of points that a function builds (layer 9). -/
import Derived.Test.YtcgndcapdodhlaaTemCheck
import Derived.OwnWalk
import Derived.Deep.AppendLies
import Derived.ArgAppend
import Derived.Laws.AppendOwnNone
import Derived.Laws.OwnMore
namespace Go.Proofs.Ytcgndcapdodhlaa
open Go.ChangeShapes Go.WideShapes Go.ChangeAt Go.RowKit

def encT (m : Tp) : List Value := [.int .i64 m.1, .int .i64 m.2.1, .int .i64 m.2.2.1, .bool m.2.2.2]
def encL (l : List Tp) : List Value := l.flatMap encT
theorem encL_len (l : List Tp) : (encL l).length = l.length * 4 := by
  induction l with
  | nil => rfl
  | cons m l ih => simp only [encL, List.flatMap_cons, List.length_append, List.length_cons] at *; rw [ih]; simp [encT]; omega
theorem nthT_succ (m : Tp) (l : List Tp) (i : Nat) : nthT (m :: l) (i + 1) = nthT l i := by simp [nthT]
theorem encL_get (l : List Tp) : ∀ i, i < l.length → (encL l)[i * 4]? = some (.int .i64 (nthT l i).1) ∧ (encL l)[i * 4 + 1]? = some (.int .i64 (nthT l i).2.1) ∧ (encL l)[i * 4 + 2]? = some (.int .i64 (nthT l i).2.2.1) ∧ (encL l)[i * 4 + 3]? = some (.bool (nthT l i).2.2.2) := by
  induction l with
  | nil => intro i hi; simp at hi
  | cons m l ih =>
    intro i hi
    cases i with
    | zero => exact ⟨rfl, rfl, rfl, rfl⟩
    | succ i =>
      have h := ih i (by simpa using hi)
      have e : ∀ q, (encL (m :: l))[q + 4]? = (encL l)[q]? := fun q => by simp only [encL, List.flatMap_cons, encT]; rfl
      rw [nthT_succ, show (i + 1) * 4 = i * 4 + 4 by omega, e, show i * 4 + 4 + 1 = i * 4 + 1 + 4 by omega, e, show i * 4 + 4 + 2 = i * 4 + 2 + 4 by omega, e, show i * 4 + 4 + 3 = i * 4 + 3 + 4 by omega, e]
      exact h
theorem encL_app (l k : List Tp) : encL (l ++ k) = encL l ++ encL k := by simp [encL]
theorem encL_one (m : Tp) : encL [m] = encT m := by simp [encL]
theorem encL_cells (l : List Tp) : ∀ u ∈ encL l, u.oneCell' = true := by
  intro u hu
  obtain ⟨m, _, hm⟩ := List.mem_flatMap.1 hu
  simp [encT] at hm
  rcases hm with rfl | rfl | rfl | rfl <;> rfl
/-- The cells behind the address. -/
theorem Ts.encs {w : World} {a : Option Addr} {n b off : Nat} {l : List Tp} (h : Ts w a n b off l) : ∀ j u, (encL l)[j]? = some u → w.cell? ⟨b, off + j, none⟩ = some u := by
  intro j u hu
  have hj := (List.getElem?_eq_some_iff.1 hu).1
  rw [encL_len, h.1] at hj
  obtain ⟨c0, c1, c2, c3⟩ := h.2.2 (j / 4) (by omega)
  obtain ⟨e0, e1, e2, e3⟩ := encL_get l (j / 4) (by rw [h.1]; omega)
  have hm : j % 4 = 0 ∨ j % 4 = 1 ∨ j % 4 = 2 ∨ j % 4 = 3 := by omega
  rcases hm with hm | hm | hm | hm
  · have ej : j / 4 * 4 = j := by omega
    rw [ej] at c0 e0; rw [c0, ← e0]; exact hu
  · have ej : j / 4 * 4 + 1 = j := by omega
    rw [Nat.add_assoc, ej] at c1; rw [ej] at e1; rw [c1, ← e1]; exact hu
  · have ej : j / 4 * 4 + 2 = j := by omega
    rw [Nat.add_assoc, ej] at c2; rw [ej] at e2; rw [c2, ← e2]; exact hu
  · have ej : j / 4 * 4 + 3 = j := by omega
    rw [Nat.add_assoc, ej] at c3; rw [ej] at e3; rw [c3, ← e3]; exact hu
theorem Ts.zero (w : World) (a : Option Addr) : Ts w a 0 0 0 [] := ⟨rfl, fun h => by omega, fun i hi => by omega⟩
theorem nthT_take {l : List Tp} {k i : Nat} (h : i < k) : nthT (l.take k) i = nthT l i := by simp [nthT, List.getD_eq_getElem?_getD, h]
theorem nthT_drop {l : List Tp} {k i : Nat} : nthT (l.drop k) i = nthT l (k + i) := by simp [nthT, List.getD_eq_getElem?_getD]
theorem Ts.pre {w : World} {a : Option Addr} {n b off : Nat} {l : List Tp} (h : Ts w a n b off l) {k : Nat} (hk : k ≤ n) : Ts w a k b off (l.take k) :=
  ⟨by have := h.1; simp; omega, fun h0 => h.2.1 (by omega), fun i hi => by rw [nthT_take hi]; exact h.2.2 i (by omega)⟩
theorem Ts.post {w : World} {a : Option Addr} {n b off : Nat} {l : List Tp} (h : Ts w a n b off l) {k cap : Nat} (hk : k ≤ n) (hc : n ≤ cap) (hn : a = none → cap = 0) :
    ∃ b3 o3, Ts w (if cap = k then a else a.map (·.add (k * 4))) (n - k) b3 o3 (l.drop k) ∧ ((if cap = k then a else a.map (·.add (k * 4))) = none → cap - k = 0) := by
  have hz : (if cap = k then a else a.map (·.add (k * 4))) = none → cap - k = 0 := by
    intro e
    by_cases hck : cap = k
    · omega
    · rw [if_neg hck] at e
      cases a with
      | none => have := hn rfl; omega
      | some p => cases e
  rcases Nat.eq_zero_or_pos (n - k) with h0 | h0
  · refine ⟨0, 0, ?_, hz⟩
    rw [h0, List.drop_of_length_le (by have := h.1; omega)]
    exact Ts.zero w _
  · obtain ⟨rfl, hbw⟩ := h.2.1 (by omega)
    refine ⟨b, off + k * 4, ⟨by have := h.1; simp; omega, fun _ => ⟨?_, hbw⟩, fun i hi => ?_⟩, hz⟩
    · rw [if_neg (by omega)]
      show some (Addr.add ⟨b, off, none⟩ (k * 4)) = _
      rw [Go.WideShapes.add_plain]
    · rw [nthT_drop]
      have := h.2.2 (k + i) (by omega)
      rwa [show off + (k + i) * 4 = off + k * 4 + i * 4 by omega] at this

theorem info_t : (Try.prog.info? 30).map (fun i => (i.zero, i.size, i.bytes)) = some (some (.agg #[.int .i64 0, .int .i64 0, .int .i64 0, .bool false]), 4, 32) := by kernel_rfl

/-- A slice of points of its own. -/
def TsO (w : World) (B : Nat) (v : Value) (l : List Tp) : Prop := w.ownsRow B 30 4 v l.length (encL l)
theorem TsO.nil (w : World) (B : Nat) : TsO w B (.slice none 0 0) [] := World.ownsRow_nil _ _ _ _
theorem TsO.empty (w : World) (fr : Nat × Nat := (0, 0)) (hf : fr = (0, 0) := by rfl) : TsO (w.alloc (.cells #[] 30 fr)) w.heap.size (.slice (some ⟨w.heap.size, 0, none⟩) 0 0) [] := by
  subst hf
  exact ⟨rfl, .inr ⟨w.heap.size, 0, #[], rfl, Nat.le_refl _, heap_alloc_new w _, Nat.le_refl _, by simp [maxLen], rfl, rfl⟩⟩
theorem TsO.alloc {w : World} {B : Nat} {v : Value} {l : List Tp} (h : TsO w B v l) (o : Obj) : TsO (w.alloc o) B v l := World.ownsRow.alloc h o
theorem TsO.mono {w : World} {B B' : Nat} {v : Value} {l : List Tp} (h : TsO w B v l) (hB : B' ≤ B) : TsO w B' v l := by
  refine ⟨h.1, ?_⟩
  rcases h.2 with h0 | ⟨g, cap, cur, h1, h2, h3⟩
  · exact .inl h0
  · exact .inr ⟨g, cap, cur, h1, Nat.le_trans hB h2, h3⟩
theorem TsO.below {w w' : World} {B B' : Nat} {v : Value} {l : List Tp} (h : TsO w B v l) (hb : Below B' w w') (hB : w.heap.size ≤ B') : TsO w' B v l := by
  refine ⟨h.1, ?_⟩
  rcases h.2 with h0 | ⟨g, cap, cur, h1, h2, h3, h4⟩
  · exact .inl h0
  · refine .inr ⟨g, cap, cur, h1, h2, ?_, h4⟩
    have hlt := (Array.getElem?_eq_some_iff.1 h3).1
    exact (hb.block g (by omega)).trans h3
theorem TsO.ts {w : World} {B : Nat} {v : Value} {l : List Tp} (h : TsO w B v l) : ∃ a b cap, v = .slice a l.length cap ∧ Ts w a l.length b 0 l ∧ (0 < l.length → ∃ c tb fr, w.heap[b]? = some (.cells c tb fr)) ∧ (a = none → cap = 0) ∧ l.length ≤ cap ∧ cap ≤ maxLen := by
  rcases h.2 with ⟨h0, hn⟩ | ⟨g, cap, cur, h1, h2, h3, h4, h5, h6, h7⟩
  · exact ⟨none, 0, 0, by rw [hn]; exact h0, ⟨rfl, fun h => by omega, fun i hi => by omega⟩, fun h => by omega, fun _ => rfl, by omega, by simp [maxLen]⟩
  · refine ⟨some ⟨g, 0, none⟩, g, cap, h1, ⟨rfl, fun _ => ⟨rfl, (Array.getElem?_eq_some_iff.1 h3).1⟩, fun i hi => ?_⟩, fun _ => ⟨_, _, _, h3⟩, fun h => (by cases h), h4, h5⟩
    subst h1
    obtain ⟨e1, e2, e3, e4⟩ := encL_get l i hi
    have c1 := World.ownsRow.cellAt h (i * 4) (by omega)
    have c2 := World.ownsRow.cellAt h (i * 4 + 1) (by omega)
    have c3 := World.ownsRow.cellAt h (i * 4 + 2) (by omega)
    have c4 := World.ownsRow.cellAt h (i * 4 + 3) (by omega)
    rw [Nat.zero_add]
    exact ⟨c1.trans e1, c2.trans e2, c3.trans e3, c4.trans e4⟩
variable {ops : Array Oper} {o : Oper} {a : Act} {Q : Exit → Act → World → Prop} {w : World}

/-- 'append(v, m)', where v is the call's own. -/
theorem wp_append_t {K : Act → World → Prop} (s x : Operand) (ho : o.op = .call { callee := .builtin .append, args := #[s, x], argTypes := #[22, 22] })
    (B : Nat) (v : Value) (l : List Tp) (hs : a.eval s = v) (hown : TsO w B v l) (g : Nat) (m : Tp) (hx : a.eval x = .slice (some ⟨g, 0, none⟩) 1 1) (tb : TypeId) (fr : Nat × Nat)
    (hc : w.heap[g]? = some (.cells #[.int .i64 m.1, .int .i64 m.2.1, .int .i64 m.2.2.1, .bool m.2.2.2] tb fr)) (hlen : l.length ≤ 1200000) (hB : B ≤ w.heap.size)
    (h : ∀ v' w', TsO w' B v' (l ++ [m]) → Below B w w' → w.grownBy w' v.ownBlock → K (a.put o.dst v') w') : o.wp Try.prog a w K Q := by
  obtain ⟨i0, hi, hz0, hz1, hz2⟩ := info_parts info_t
  refine wp_append_own w s x 22 ho B 30 i0 (.agg #[.int .i64 0, .int .i64 0, .int .i64 0, .bool false]) 4 32 Try.underlying22 hi hz0 hz1 hz2 rfl (by decide) v l.length _ hs hown ⟨g, 0, none⟩ 1 1 (encT m) hx rfl ?_ ?_ (by unfold maxLen; omega) (by omega) hB ?_
  · exact fun j u hj => World.news_of_block hc j u (by simpa [encT] using hj)
  · intro u hu; exact encL_cells [m] u (by rw [encL_one]; exact hu)
  · intro v' w' h1 h2 _
    refine h v' w' ?_ ((Below.refl B w).grown h2 hB fun k hk => (World.ownsRow.lt hown k hk).1) h2
    unfold TsO
    rw [encL_app, encL_one, List.length_append]
    exact h1

/-- 'append(v, x...)', where v is the call's own. -/
theorem wp_append_ts {K : Act → World → Prop} (s x : Operand) (ho : o.op = .call { callee := .builtin .append, args := #[s, x], argTypes := #[22, 22] })
    (B : Nat) (v : Value) (l : List Tp) (hs : a.eval s = v) (hown : TsO w B v l) (ax : Option Addr) (b off n c : Nat) (l2 : List Tp) (hx : a.eval x = .slice ax n c) (hr : Ts w ax n b off l2) (hnc : ax = none → c = 0)
    (hlen : l.length + n ≤ 1200000) (hB : B ≤ w.heap.size)
    (h : ∀ v' w', TsO w' B v' (l ++ l2) → Below B w w' → w.grownBy w' v.ownBlock → K (a.put o.dst v') w') : o.wp Try.prog a w K Q := by
  obtain ⟨i0, hi, hz0, hz1, hz2⟩ := info_parts info_t
  cases ax with
  | none =>
    obtain rfl : c = 0 := hnc rfl
    obtain rfl : n = 0 := by
      rcases Nat.eq_zero_or_pos n with h0 | h0
      · exact h0
      · have := (hr.2.1 h0).1; cases this
    obtain rfl : l2 = [] := List.eq_nil_of_length_eq_zero hr.1
    have hrun := run_append_owned_none (P := Try.prog) (w := w) B 22 o.type 30 i0 4 Try.underlying22 hi v l.length _ hown
    unfold Oper.wp
    simp [execOp, ho, resolve, invoke, builtin, hs, hx, hrun, Result.andThen]
    exact h v w (by rw [List.append_nil]; exact hown) (Below.refl _ _) ⟨rfl, rfl, rfl, Nat.le_refl _, fun _ _ _ => rfl⟩
  | some ad =>
    refine wp_append_own w s x 22 ho B 30 i0 (.agg #[.int .i64 0, .int .i64 0, .int .i64 0, .bool false]) 4 32 Try.underlying22 hi hz0 hz1 hz2 rfl (by decide) v l.length _ hs hown ad n c (encL l2) hx (by rw [encL_len, hr.1]) ?_ (encL_cells l2) (by unfold maxLen; omega) (by omega) hB ?_
    · intro j u hj
      have hn : 0 < n := by
        have := (List.getElem?_eq_some_iff.1 hj).1
        rw [encL_len, hr.1] at this; omega
      have he := (hr.2.1 hn).1
      cases he
      rw [Go.WideShapes.add_plain]
      exact hr.encs j u hj
    · intro v' w' h1 h2 _
      refine h v' w' ?_ ((Below.refl B w).grown h2 hB fun k hk => (World.ownsRow.lt hown k hk).1) h2
      unfold TsO
      rw [encL_app, List.length_append, hr.1]
      exact h1

/-- 'append(s, m)' where s is full: a new block. -/
theorem wp_append_full {K : Act → World → Prop} (s x : Operand) (ho : o.op = .call { callee := .builtin .append, args := #[s, x], argTypes := #[22, 22] })
    (ao : Option Addr) (b off n : Nat) (l : List Tp) (hs : a.eval s = .slice ao n n) (hr : Ts w ao n b off l) (hnc : ao = none → n = 0) (g : Nat) (m : Tp) (hx : a.eval x = .slice (some ⟨g, 0, none⟩) 1 1) (tb : TypeId) (fr : Nat × Nat)
    (hc : w.heap[g]? = some (.cells #[.int .i64 m.1, .int .i64 m.2.1, .int .i64 m.2.2.1, .bool m.2.2.2] tb fr)) (hlen : n ≤ 1200000)
    (h : ∀ v' w', TsO w' w.heap.size v' (l ++ [m]) → w.grownBy w' none → K (a.put o.dst v') w') : o.wp Try.prog a w K Q := by
  cases ao with
  | none =>
    obtain rfl : n = 0 := hnc rfl
    obtain rfl : l = [] := List.eq_nil_of_length_eq_zero hr.1
    exact wp_append_t s x ho w.heap.size _ [] hs (TsO.nil _ _) g m hx tb fr hc (by simp) (Nat.le_refl _) fun v' w' h1 _ h3 => h v' w' h1 h3
  | some ad =>
    obtain ⟨i0, hi, hz0, hz1, hz2⟩ := info_parts info_t
    obtain ⟨v', w', hrun, r1, r2⟩ := run_append_arg_grows (P := Try.prog) w 22 o.type 30 i0 (.agg #[.int .i64 0, .int .i64 0, .int .i64 0, .bool false]) 4 32 Try.underlying22 hi hz0 hz1 hz2 rfl (by decide) ad n n (encL l) (by rw [encL_len, hr.1]) (fun j u hj => by
      have hn : 0 < n := by
        have := (List.getElem?_eq_some_iff.1 hj).1
        rw [encL_len, hr.1] at this; omega
      have he := (hr.2.1 hn).1
      cases he
      rw [Go.WideShapes.add_plain]
      exact hr.encs j u hj) ⟨g, 0, none⟩ 1 1 (encT m) rfl (fun j u hj => World.news_of_block hc j u (by simpa [encT] using hj)) (by omega) (by unfold maxLen; omega) (by omega)
    unfold Oper.wp
    simp [execOp, ho, resolve, invoke, builtin, hs, hx, hrun, Result.andThen]
    refine h v' w' ?_ r2
    unfold TsO
    rw [encL_app, encL_one, List.length_append, hr.1]
    exact r1
end Go.Proofs.Ytcgndcapdodhlaa
