/- Appends to an empty slice of digests (layer 2). -/
import Derived.Test.YthbjjfblapfjdaaDoorDigThree
namespace Go.Proofs.YthbjjfblapfjdaaDoor
open Go.ChangeShapes Go.WideShapes Go.ChangeAt Go.RowKit Go.Shelf
theorem own_ne_new {w : World} {B : Nat} {v : Value} {l : List (List Int)} (h : DgsO w B v l) : v.ownBlock ≠ some w.heap.size := by
  intro e
  rcases h.2.2 with ⟨rfl, _⟩ | ⟨g, cap, cur, rfl, _, h3, _⟩
  · simp [Value.ownBlock] at e
  · simp [Value.ownBlock] at e
    have := blk_lt h3
    omega
theorem new_ne {w : World} {c : Nat} (h : c < w.heap.size) : (Value.slice (some ⟨w.heap.size, 0, none⟩) 0 0).ownBlock ≠ some c := by
  simp [Value.ownBlock]
  omega
theorem grown_fact {w w' : World} {row : Option Nat} {c : Nat} {X : Obj} (hg : w.grownBy w' row) (h : w.heap[c]? = some X) (hn : row ≠ some c) : w'.heap[c]? = some X :=
  (hg.block c (blk_lt h) (fun e => hn e.symm)).trans h
theorem wp_append_D0 {o : Oper} {a : Act} {Q : Exit → Act → World → Prop} {w : World} {K : Act → World → Prop} (s x : Operand) (ho : o.op = .call { callee := .builtin .append, args := #[s, x], argTypes := #[30, 30] })
    (B e : Nat) (hs : a.eval s = .slice (some ⟨e, 0, none⟩) 0 0) (hown : DgsO w B (.slice (some ⟨e, 0, none⟩) 0 0) []) (ax : Option Addr) (b off n c : Nat) (l2 : List (List Int)) (hx : a.eval x = .slice ax n c) (hr : DigR w ax b off n l2) (hnc : ax = none → c = 0)
    (hlen : n ≤ 1200000) (hB : B ≤ w.heap.size)
    (h : ∀ v' w', DgsO w' B v' l2 → Below w.heap.size w w' → (∀ c, c < w.heap.size → (Value.slice (some ⟨e, 0, none⟩) 0 0).ownBlock ≠ some c → v'.ownBlock ≠ some c) → K (a.put o.dst v') w') : o.wp Tryd.prog a w K Q := by
  obtain ⟨i0, hi, hz0, hz1, hz2⟩ := info_parts info_D
  by_cases h0 : n = 0
  · subst h0
    obtain rfl : l2 = [] := List.eq_nil_of_length_eq_zero hr.len
    have hsrc : Src Tryd.prog i0.size 30 (.slice ax 0 c) 0 [] w := by
      cases ax with
      | none => obtain rfl : c = 0 := hnc rfl; exact Src.ofNil w Tryd.underlying30 0
      | some ad => exact Src.ofSlice w Tryd.underlying30 ad 0 c [] (by simp) (by intro j u hj; simp at hj) (by intro u hu; cases hu)
    have hrun := run_append_nothing (P := Tryd.prog) w 30 30 o.type 26 i0 Tryd.underlying30 hi (some ⟨e, 0, none⟩) 0 0 (Nat.le_refl _) _ hsrc
    unfold Oper.wp
    simp [execOp, ho, resolve, invoke, builtin, hs, hx, hrun, Result.andThen]
    exact h _ w hown (Below.refl _ _) (fun c _ hc => hc)
  · have he := hr.adr (by omega)
    subst he
    obtain ⟨v', w', hrun, hw, hg⟩ := run_append_arg_grows (P := Tryd.prog) w 30 o.type 26 i0 (.agg (Array.replicate 32 (.int .u8 0))) 32 32 Tryd.underlying30 hi hz0 hz1 hz2 (by kernel_rfl) (by decide) ⟨e, 0, none⟩ 0 0 [] (by simp) (by intro j u hj; simp at hj) ⟨b, off, none⟩ n c (dgC l2) (by rw [dgC_len hr.all, hr.len]) (fun j u hj => by rw [Go.WideShapes.add_plain]; exact hr.cellsAt j u hj) (by omega) (by unfold maxLen; omega) (by omega)
    rw [Nat.zero_add, List.nil_append] at hw
    have hO : DgsO w' w.heap.size v' l2 := ⟨hr.all, by rw [hr.len]; exact hw⟩
    unfold Oper.wp
    simp [execOp, ho, resolve, invoke, builtin, hs, hx, hrun, Result.andThen]
    refine h v' w' (hO.mono hB) ((Below.refl _ _).grown hg (Nat.le_refl _) (fun k hk => by cases hk)) (fun c hc _ e => ?_)
    rcases hO.2.2 with ⟨rfl, _⟩ | ⟨g, cap, cur, rfl, h2, _⟩
    · simp [Value.ownBlock] at e
    · simp [Value.ownBlock] at e
      omega
theorem sz_eq {A B : List Int} (hA : A.length = 32) (hB : B.length = 32) : (bV A).size = (bV B).size := by rw [bV_size, bV_size, hA, hB]
theorem sz_in {A : List Int} (hA : A.length = 32) : (Tryd.prog.info? 26).map (·.size) = some (bV A).size := by rw [bV_size, hA]; kernel_rfl
/-- Any of four operations may come up. -/
theorem wpAnyH_four {P : Program} {md : Region.Mode} {ops : Array Oper} {Q : Exit → Act → World → Prop} {S : World → Prop} {i j k l : Nat} {o o' o'' o3 : Oper} {fuel : Nat} {listed : Array Bool} {a : Act} {w : World} (hr : Region.ready md ops listed = [i, j, k, l]) (hi : ops[i]? = some o) (hj : ops[j]? = some o') (hk : ops[k]? = some o'') (hl : ops[l]? = some o3) (hw : Region.wanted o (yielded ops a.tmps) = true) (hw' : Region.wanted o' (yielded ops a.tmps) = true) (hw'' : Region.wanted o'' (yielded ops a.tmps) = true) (hw3 : Region.wanted o3 (yielded ops a.tmps) = true)
    (h : ∀ K' : Act → World → Prop, (∀ a w, S w → wpAnyH P md ops Q S fuel (listed.setIfInBounds i true) a w → K' a w) → Oper.wp P o a w K' Q)
    (h' : ∀ K' : Act → World → Prop, (∀ a w, S w → wpAnyH P md ops Q S fuel (listed.setIfInBounds j true) a w → K' a w) → Oper.wp P o' a w K' Q)
    (h'' : ∀ K' : Act → World → Prop, (∀ a w, S w → wpAnyH P md ops Q S fuel (listed.setIfInBounds k true) a w → K' a w) → Oper.wp P o'' a w K' Q)
    (h3 : ∀ K' : Act → World → Prop, (∀ a w, S w → wpAnyH P md ops Q S fuel (listed.setIfInBounds l true) a w → K' a w) → Oper.wp P o3 a w K' Q) : wpAnyH P md ops Q S (fuel + 1) listed a w := by
  refine wpAnyH_all hr (by simp) ?_
  intro x hx
  rcases List.mem_cons.1 hx with rfl | hx
  · unfold wpOp
    simp only [hi, hw, if_true]
    exact .inl (h _ fun a w hS h => ⟨hS, h⟩)
  rcases List.mem_cons.1 hx with rfl | hx
  · unfold wpOp
    simp only [hj, hw', if_true]
    exact .inl (h' _ fun a w hS h => ⟨hS, h⟩)
  rcases List.mem_cons.1 hx with rfl | hx
  · unfold wpOp
    simp only [hk, hw'', if_true]
    exact .inl (h'' _ fun a w hS h => ⟨hS, h⟩)
  · obtain rfl := List.mem_singleton.1 hx
    unfold wpOp
    simp only [hl, hw3, if_true]
    exact .inl (h3 _ fun a w hS h => ⟨hS, h⟩)
end Go.Proofs.YthbjjfblapfjdaaDoor
