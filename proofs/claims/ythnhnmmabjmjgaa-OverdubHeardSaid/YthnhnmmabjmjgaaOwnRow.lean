/- Slices of integers that a call builds: another slice's elements appended. -/
import Derived.Test.YthnhnmmabjmjgaaOwn
import Derived.Laws.AppendOwnNone
import Derived.Laws.OwnMore
import Derived.OpenShut
namespace Go.Proofs.Ythnhnmmabjmjgaa
open Go.ChangeShapes Go.WideShapes Go.ChangeAt Go.RowKit

variable {ops : Array Oper} {o : Oper} {a : Act} {Q : Exit → Act → World → Prop} {w : World}

/-- '[]int{}', laid by the call itself. -/
theorem Ints.empty (w : World) (fr : Nat × Nat := (0, 0)) (hf : fr = (0, 0) := by rfl) : Ints (w.alloc (.cells #[] 3 fr)) w.heap.size (.slice (some ⟨w.heap.size, 0, none⟩) 0 0) [] := by
  subst hf
  exact ⟨rfl, .inr ⟨w.heap.size, 0, #[], rfl, Nat.le_refl _, heap_alloc_new w _, Nat.le_refl _, by simp [maxLen], rfl, rfl⟩⟩

/-- 'append(v, x...)', where v is the call's own. -/
theorem wp_append_row {K : Act → World → Prop} (s x : Operand) (ho : o.op = .call { callee := .builtin .append, args := #[s, x], argTypes := #[38, 38] })
    (B : Nat) (v : Value) (l : List Int) (hs : a.eval s = v) (hown : Ints w B v l) (ax : Option Addr) (b off n c : Nat) (l2 : List Int) (hx : a.eval x = .slice ax n c) (hr : Row w ax b off n l2) (hnc : ax = none → c = 0)
    (hlen : l.length + n ≤ 1000000) (hB : B ≤ w.heap.size)
    (h : ∀ v' w', Ints w' B v' (l ++ l2) → Below B w w' → w.grownBy w' v.ownBlock → K (a.put o.dst v') w') : o.wp Try.prog a w K Q := by
  obtain ⟨i0, hi, hz0, hz1, hz2⟩ := info_parts info_int
  cases ax with
  | none =>
    obtain rfl : c = 0 := hnc rfl
    obtain rfl : n = 0 := by
      rcases Nat.eq_zero_or_pos n with h0 | h0
      · exact h0
      · have := hr.adr h0; cases this
    obtain rfl : l2 = [] := List.eq_nil_of_length_eq_zero hr.len
    have hrun := run_append_owned_none (P := Try.prog) (w := w) B 38 o.type 3 i0 1 Try.underlying38 hi v l.length _ hown
    unfold Oper.wp
    simp [execOp, ho, resolve, invoke, builtin, hs, hx, hrun, Result.andThen]
    exact h v w (by rw [List.append_nil]; exact hown) (Below.refl _ _) ⟨rfl, rfl, rfl, Nat.le_refl _, fun _ _ _ => rfl⟩
  | some ad =>
    refine wp_append_own w s x 38 ho B 3 i0 (.int .i64 0) 1 8 Try.underlying38 hi hz0 hz1 hz2 rfl (by decide) v l.length _ hs hown ad n c (l2.map (Value.int .i64)) hx (by rw [List.length_map, hr.len, Nat.mul_one]) ?_ ?_ (by unfold maxLen; omega) (by omega) hB ?_
    · intro j u hj
      have hjn : j < n := by
        have := (List.getElem?_eq_some_iff.1 hj).1
        rw [List.length_map, hr.len] at this
        exact this
      have he := hr.adr (by omega)
      cases he
      have hc := hr.cel j hjn
      rw [← Go.WideShapes.add_plain] at hc
      rw [hc]
      rw [List.getElem?_map] at hj
      simp only [List.getD_eq_getElem?_getD]
      cases hq : l2[j]? with
      | none => rw [hq] at hj; simp at hj
      | some y => rw [hq] at hj; simpa using hj
    · intro u hu
      obtain ⟨y, _, rfl⟩ := List.mem_map.1 hu
      rfl
    · intro v' w' h1 h2 _
      refine h v' w' ?_ ((Below.refl B w).grown h2 hB fun k hk => (World.ownsRow.lt hown k hk).1) h2
      unfold Ints
      rw [List.length_append, hr.len, List.map_append]
      exact h1

theorem wpList_append_row {rest : List Oper} (hgd : o.guard = none) (s x : Operand) (ho : o.op = .call { callee := .builtin .append, args := #[s, x], argTypes := #[38, 38] })
    (B : Nat) (v : Value) (l : List Int) (hs : a.eval s = v) (hown : Ints w B v l) (ax : Option Addr) (b off n c : Nat) (l2 : List Int) (hx : a.eval x = .slice ax n c) (hr : Row w ax b off n l2) (hnc : ax = none → c = 0)
    (hlen : l.length + n ≤ 1000000) (hB : B ≤ w.heap.size)
    (h : ∀ v' w', Ints w' B v' (l ++ l2) → Below B w w' → w.grownBy w' v.ownBlock → wpList Try.prog ops Q rest (a.put o.dst v') w') : wpList Try.prog ops Q (o :: rest) a w :=
  wpList_plain hgd fun _ hK => wp_append_row s x ho B v l hs hown ax b off n c l2 hx hr hnc hlen hB fun v' w' h1 h2 h3 => hK _ _ (h v' w' h1 h2 h3)

theorem row_nil {w : World} {a : Option Addr} {len cap : Nat} {zs : List Int} (h : (a = none ∧ len = 0 ∧ cap = 0 ∧ zs = []) ∨
    ∃ x, a = some x ∧ len ≤ cap ∧ cap ≤ maxLen ∧ zs.length = cap ∧ (∀ i, i < zs.length → w.cell? (x.add i) = some (.int .i64 (zs.getD i 0))) ∧ ∀ n ∈ zs, (Lit.int .i64 n).wf = true) : a = none → cap = 0 := by
  rcases h with ⟨_, _, rfl, _⟩ | ⟨x, rfl, _⟩
  · exact fun _ => rfl
  · intro h; cases h
end Go.Proofs.Ythnhnmmabjmjgaa
