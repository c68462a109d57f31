/- Appends to a full slice of packets (layer 6). -/
import Derived.Test.YthgbkdaimnejeaaNetSam2
import Derived.Deep.Upon
namespace Go.Proofs.Ythgbkdaimnejeaa
open Go.ChangeShapes Go.WideShapes Go.ChangeAt Go.RowKit Go.Sort Go.Shelf

section
variable {o : Oper} {a : Act} {w : World} {Q : Exit → Act → World → Prop}
theorem below_none {w w' : World} (h : w.grownBy w' none) : Below w.heap.size w w' := (Below.refl w.heap.size w).grown h (Nat.le_refl _) fun k hk => by cases hk
/-- A slice without room, and something to append: it lies anew. -/
theorem wp_append_full {K : Act → World → Prop} (s x : Operand) (ho : o.op = .call { callee := .builtin .append, args := #[s, x], argTypes := #[22, 22] })
    (ao : Option Addr) (n b off : Nat) (l : List Kt) (hs : a.eval s = .slice ao n n) (hr : Ks w ao n b off l) (ax : Option Addr) (m c b2 off2 : Nat) (l2 : List Kt) (hx : a.eval x = .slice ax m c) (hr2 : Ks w ax m b2 off2 l2) (hm : 0 < m)
    (hlen : n + m ≤ 1200000) (h : ∀ v' w', KsO w' w.heap.size v' (l ++ l2) → Below w.heap.size w w' → K (a.put o.dst v') w') : o.wp Try.prog a w K Q := by
  obtain ⟨i0, hi, hz0, hz1, hz2⟩ := info_parts info_K
  obtain ⟨rfl, _⟩ := hr2.2.1 hm
  have fin : ∀ v' w', w'.ownsRow w.heap.size 28 3 v' (n + m) (encLK l ++ encLK l2) → w.grownBy w' none → K (a.put o.dst v') w' := fun v' w' h1 h2 => h v' w' (by
    unfold KsO
    rw [encLK_app, List.length_append, hr.1, hr2.1]
    exact h1) (below_none h2)
  have hc2 : ∀ j u, (encLK l2)[j]? = some u → w.cell? ((⟨b2, off2, none⟩ : Addr).add j) = some u := fun j u hj => by
    rw [Go.WideShapes.add_plain]; exact hr2.encs j u hj
  cases ao with
  | some ba =>
    have hol : ∀ j u, (encLK l)[j]? = some u → w.cell? (ba.add j) = some u := fun j u hj => by
      have hn : 0 < n := by
        have := (List.getElem?_eq_some_iff.1 hj).1
        rw [encLK_len, hr.1] at this; omega
      have he := (hr.2.1 hn).1
      cases he
      rw [Go.WideShapes.add_plain]
      exact hr.encs j u hj
    obtain ⟨v', w', hrun, r1, r2⟩ := run_append_arg_grows (P := Try.prog) w 22 o.type 28 i0 (.agg #[.int .i64 0, .int .i64 0, .slice none 0 0]) 3 40 Try.underlying22 hi hz0 hz1 hz2 rfl (by decide) ba n n (encLK l) (by rw [encLK_len, hr.1]) hol ⟨b2, off2, none⟩ m c (encLK l2) (by rw [encLK_len, hr2.1]) hc2 (by omega) (by unfold maxLen; omega) (by omega)
    unfold Oper.wp
    simp [execOp, ho, resolve, invoke, builtin, hs, hx, hrun, Result.andThen]
    exact fin v' w' r1 r2
  | none =>
    obtain rfl : n = 0 := by
      rcases Nat.eq_zero_or_pos n with h0 | h0
      · exact h0
      · have := (hr.2.1 h0).1; cases this
    obtain rfl : l = [] := List.eq_nil_of_length_eq_zero hr.1
    obtain ⟨v', w', hrun, r1, r2, _⟩ := run_append_own (P := Try.prog) w w.heap.size 22 o.type 28 i0 (.agg #[.int .i64 0, .int .i64 0, .slice none 0 0]) 3 40 Try.underlying22 hi hz0 hz1 hz2 rfl (by decide) (.slice none 0 0) 0 [] (World.ownsRow_nil w _ 28 3) ⟨b2, off2, none⟩ m c (encLK l2) (by rw [encLK_len, hr2.1]) hc2 (encLK_cells l2) (by unfold maxLen; omega) (by omega) (Nat.le_refl _)
    unfold Oper.wp
    simp [execOp, ho, resolve, invoke, builtin, hs, hx, hrun, Result.andThen]
    exact fin v' w' r1 r2
theorem step_append_full {ops : Array Oper} {K : Act → World → Prop} {E : Prop} (hgd : o.guard = none) (s x : Operand) (ho : o.op = .call { callee := .builtin .append, args := #[s, x], argTypes := #[22, 22] })
    (ao : Option Addr) (n b off : Nat) (l : List Kt) (hs : a.eval s = .slice ao n n) (hr : Ks w ao n b off l) (ax : Option Addr) (m c b2 off2 : Nat) (l2 : List Kt) (hx : a.eval x = .slice ax m c) (hr2 : Ks w ax m b2 off2 l2) (hm : 0 < m)
    (hlen : n + m ≤ 1200000) (h : ∀ v' w', KsO w' w.heap.size v' (l ++ l2) → Below w.heap.size w w' → K (a.put o.dst v') w') :
    if Region.wanted o (yielded ops a.tmps) = true then Oper.wp Try.prog o a w K Q else E := by
  have hw : Region.wanted o (yielded ops a.tmps) = true := by simp [Region.wanted, hgd]
  rw [if_pos hw]
  exact wp_append_full s x ho ao n b off l hs hr ax m c b2 off2 l2 hx hr2 hm hlen h
end
end Go.Proofs.Ythgbkdaimnejeaa
