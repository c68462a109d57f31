/- Slices of changes that a function builds (layer 10). -/
import Derived.Test.YtkgimglkiniofaaMetreOf
import Derived.Test.YtkgimglkiniofaaOwn
namespace Go.Proofs.Ytkgimglkiniofaa
open Go.RowKit

def encM (m : Mt) : List Value := [.int .i64 m.1, .int .i64 m.2.1, .int .i64 m.2.2]
def encL (l : List Mt) : List Value := l.flatMap encM
theorem encL_len (l : List Mt) : (encL l).length = l.length * 3 := by
  induction l with
  | nil => rfl
  | cons m l ih => simp only [encL, List.flatMap_cons, List.length_append, List.length_cons] at *; rw [ih]; simp [encM]; omega
theorem encL_get (l : List Mt) : ∀ i, i < l.length → (encL l)[i * 3]? = some (.int .i64 (nthM l i).1) ∧ (encL l)[i * 3 + 1]? = some (.int .i64 (nthM l i).2.1) ∧ (encL l)[i * 3 + 2]? = some (.int .i64 (nthM l i).2.2) := by
  induction l with
  | nil => intro i hi; simp at hi
  | cons m l ih =>
    intro i hi
    cases i with
    | zero => exact ⟨rfl, rfl, rfl⟩
    | succ i =>
      have h := ih i (by simpa using hi)
      have e : ∀ q, (encL (m :: l))[q + 3]? = (encL l)[q]? := fun q => by simp only [encL, List.flatMap_cons, encM]; rfl
      have en : nthM (m :: l) (i + 1) = nthM l i := by simp [nthM]
      rw [en, show (i + 1) * 3 = i * 3 + 3 by omega, e, show i * 3 + 3 + 1 = i * 3 + 1 + 3 by omega, e, show i * 3 + 3 + 2 = i * 3 + 2 + 3 by omega, e]
      exact h
theorem encL_snoc (l : List Mt) (m : Mt) : encL (l ++ [m]) = encL l ++ encM m := by simp [encL]

theorem info_m : (Try.prog.info? 38).map (fun i => (i.zero, i.size, i.bytes)) = some (some (.agg #[.int .i64 0, .int .i64 0, .int .i64 0]), 3, 24) := by kernel_rfl

/-- A slice of changes of its own. -/
def Trs (w : World) (B : Nat) (v : Value) (l : List Mt) : Prop := w.ownsRow B 38 3 v l.length (encL l)
theorem Trs.nil (w : World) (B : Nat) : Trs w B (.slice none 0 0) [] := World.ownsRow_nil _ _ _ _
theorem Trs.alloc {w : World} {B : Nat} {v : Value} {l : List Mt} (h : Trs w B v l) (o : Obj) : Trs (w.alloc o) B v l := World.ownsRow.alloc h o
theorem Trs.mono {w : World} {B B' : Nat} {v : Value} {l : List Mt} (h : Trs w B v l) (hB : B' ≤ B) : Trs w B' v l := by
  refine ⟨h.1, ?_⟩
  rcases h.2 with h0 | ⟨g, cap, cur, h1, h2, h3⟩
  · exact .inl h0
  · exact .inr ⟨g, cap, cur, h1, Nat.le_trans hB h2, h3⟩
theorem Trs.below {w w' : World} {B B' : Nat} {v : Value} {l : List Mt} (h : Trs w B v l) (hb : Below B' w w') (hB : w.heap.size ≤ B') : Trs w' B v l := by
  refine ⟨h.1, ?_⟩
  rcases h.2 with h0 | ⟨g, cap, cur, h1, h2, h3, h4⟩
  · exact .inl h0
  · refine .inr ⟨g, cap, cur, h1, h2, ?_, h4⟩
    have hlt := (Array.getElem?_eq_some_iff.1 h3).1
    exact (hb.block g (by omega)).trans h3
theorem Trs.isSlice {w : World} {B : Nat} {v : Value} {l : List Mt} (h : Trs w B v l) : ∃ a c, v = .slice a l.length c := by
  rcases h.2 with ⟨h0, hn⟩ | ⟨g, cap, cur, h1, _⟩
  · exact ⟨none, 0, by rw [hn]; exact h0⟩
  · exact ⟨_, _, h1⟩
theorem Trs.ms {w : World} {B : Nat} {v : Value} {l : List Mt} (h : Trs w B v l) : ∃ a b cap, v = .slice a l.length cap ∧ Ms w a l.length b 0 l ∧ (0 < l.length → ∃ c tb fr, w.heap[b]? = some (.cells c tb fr)) := by
  rcases h.2 with ⟨h0, hn⟩ | ⟨g, cap, cur, h1, h2, h3, h4, h5, h6, h7⟩
  · exact ⟨none, 0, 0, by rw [hn]; exact h0, ⟨rfl, fun h => by omega, fun i hi => by omega⟩, fun h => by omega⟩
  · refine ⟨some ⟨g, 0, none⟩, g, cap, h1, ⟨rfl, fun _ => ⟨rfl, (Array.getElem?_eq_some_iff.1 h3).1⟩, fun i hi => ?_⟩, fun _ => ⟨_, _, _, h3⟩⟩
    subst h1
    obtain ⟨e1, e2, e3⟩ := encL_get l i hi
    have c1 := World.ownsRow.cellAt h (i * 3) (by omega)
    have c2 := World.ownsRow.cellAt h (i * 3 + 1) (by omega)
    have c3 := World.ownsRow.cellAt h (i * 3 + 2) (by omega)
    rw [Nat.zero_add]
    exact ⟨c1.trans e1, c2.trans e2, c3.trans e3⟩
variable {ops : Array Oper} {o : Oper} {a : Act} {Q : Exit → Act → World → Prop} {w : World}

/-- 'append(v, m)', where v is the call's own. -/
theorem wp_append_m {K : Act → World → Prop} (s x : Operand) (ho : o.op = .call { callee := .builtin .append, args := #[s, x], argTypes := #[22, 22] })
    (B : Nat) (v : Value) (l : List Mt) (hs : a.eval s = v) (hown : Trs w B v l) (g : Nat) (m : Mt) (hx : a.eval x = .slice (some ⟨g, 0, none⟩) 1 1) (tb : TypeId) (fr : Nat × Nat)
    (hc : w.heap[g]? = some (.cells #[.int .i64 m.1, .int .i64 m.2.1, .int .i64 m.2.2] tb fr)) (hlen : l.length ≤ 1000000) (hB : B ≤ w.heap.size)
    (h : ∀ v' w', Trs w' B v' (l ++ [m]) → Below B w w' → w.grownBy w' v.ownBlock → K (a.put o.dst v') w') : o.wp Try.prog a w K Q := by
  obtain ⟨i0, hi, hz0, hz1, hz2⟩ := info_parts info_m
  refine wp_append_own w s x 22 ho B 38 i0 (.agg #[.int .i64 0, .int .i64 0, .int .i64 0]) 3 24 Try.underlying22 hi hz0 hz1 hz2 rfl (by decide) v l.length _ hs hown ⟨g, 0, none⟩ 1 1 (encM m) hx rfl ?_ ?_ (by unfold maxLen; omega) (by omega) hB ?_
  · exact fun j u hj => World.news_of_block hc j u (by simpa [encM] using hj)
  · intro u hu; simp [encM] at hu; rcases hu with rfl | rfl | rfl <;> rfl
  · intro v' w' h1 h2 _
    refine h v' w' ?_ ((Below.refl B w).grown h2 hB fun k hk => (World.ownsRow.lt hown k hk).1) h2
    unfold Trs
    rw [encL_snoc, List.length_append]
    exact h1

theorem wpList_append_m {rest : List Oper} (hgd : o.guard = none) (s x : Operand) (ho : o.op = .call { callee := .builtin .append, args := #[s, x], argTypes := #[22, 22] })
    (B : Nat) (v : Value) (l : List Mt) (hs : a.eval s = v) (hown : Trs w B v l) (g : Nat) (m : Mt) (hx : a.eval x = .slice (some ⟨g, 0, none⟩) 1 1) (tb : TypeId) (fr : Nat × Nat)
    (hc : w.heap[g]? = some (.cells #[.int .i64 m.1, .int .i64 m.2.1, .int .i64 m.2.2] tb fr)) (hlen : l.length ≤ 1000000) (hB : B ≤ w.heap.size)
    (h : ∀ v' w', Trs w' B v' (l ++ [m]) → Below B w w' → w.grownBy w' v.ownBlock → wpList Try.prog ops Q rest (a.put o.dst v') w') : wpList Try.prog ops Q (o :: rest) a w :=
  wpList_plain hgd fun _ hK => wp_append_m s x ho B v l hs hown g m hx tb fr hc hlen hB fun v' w' h1 h2 h3 => hK _ _ (h v' w' h1 h2 h3)
end Go.Proofs.Ytkgimglkiniofaa
