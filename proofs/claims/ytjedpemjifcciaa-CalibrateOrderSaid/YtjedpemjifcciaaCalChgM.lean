/- What Changed keeps in memory (layer 42). -/
import Derived.Test.YtjedpemjifcciaaCalStr
namespace Go.Proofs.Ytjedpemjifcciaa
open Go.ChangeShapes Go.WideShapes Go.ChangeAt Go.RowKit Go.Shelf

/-- One stretch more, in which something has changed. -/
def pushY (d : Int) (x : List Yt) (s : Int × Int) : List Yt := if 0 < x.length ∧ (nthY x (x.length - 1)).1 = d ∧ (nthY x (x.length - 1)).2.2 = s.1 then x.set (x.length - 1) ((nthY x (x.length - 1)).1, (nthY x (x.length - 1)).2.1, s.2) else x ++ [(d, s.1, s.2)]
theorem pushY_set {d : Int} {x : List Yt} {s : Int × Int} (h : 0 < x.length ∧ (nthY x (x.length - 1)).1 = d ∧ (nthY x (x.length - 1)).2.2 = s.1) : pushY d x s = x.set (x.length - 1) ((nthY x (x.length - 1)).1, (nthY x (x.length - 1)).2.1, s.2) := if_pos h
theorem pushY_app {d : Int} {x : List Yt} {s : Int × Int} (h : ¬ (0 < x.length ∧ (nthY x (x.length - 1)).1 = d ∧ (nthY x (x.length - 1)).2.2 = s.1)) : pushY d x s = x ++ [(d, s.1, s.2)] := if_neg h
def stepY (l : List Rt) (bef aft d : Int) (x : List Yt) (s : Int × Int) : List Yt := if cnt l d s.1 bef l.length = cnt l d s.1 aft l.length then x else pushY d x s
theorem stepY_no {l : List Rt} {bef aft d : Int} {x : List Yt} {s : Int × Int} (h : cnt l d s.1 bef l.length = cnt l d s.1 aft l.length) : stepY l bef aft d x s = x := if_pos h
theorem stepY_yes {l : List Rt} {bef aft d : Int} {x : List Yt} {s : Int × Int} (h : cnt l d s.1 bef l.length ≠ cnt l d s.1 aft l.length) : stepY l bef aft d x s = pushY d x s := if_neg h
theorem pushY_len (d : Int) (x : List Yt) (s : Int × Int) : (pushY d x s).length ≤ x.length + 1 := by unfold pushY; split <;> simp
theorem stepY_len (l : List Rt) (bef aft d : Int) (x : List Yt) (s : Int × Int) : (stepY l bef aft d x s).length ≤ x.length + 1 := by
  unfold stepY; split
  · omega
  · exact pushY_len d x s
theorem foldY_len (l : List Rt) (bef aft d : Int) : ∀ (ss : List (Int × Int)) (x : List Yt), (ss.foldl (stepY l bef aft d) x).length ≤ x.length + ss.length
  | [], x => by simp
  | s :: ss, x => by
    have h1 := foldY_len l bef aft d ss (stepY l bef aft d x s)
    have h2 := stepY_len l bef aft d x s
    simp only [List.foldl_cons, List.length_cons]
    omega
/-- What has changed, for the first k devices. -/
def chTo (l : List Rt) (bef aft : Int) : Nat → List Yt
  | 0 => []
  | k + 1 => (strs l k).foldl (stepY l bef aft k) (chTo l bef aft k)
theorem strs_len (l : List Rt) (d : Int) : (strs l d).length ≤ l.length + 1 := by unfold strs; have := strTo_len l d l.length; simp; omega
theorem chTo_len (l : List Rt) (bef aft : Int) (k : Nat) : (chTo l bef aft k).length ≤ k * (l.length + 1) := by
  induction k with
  | zero => simp [chTo]
  | succ k ih =>
    have h1 := foldY_len l bef aft k (strs l k) (chTo l bef aft k)
    have h2 := strs_len l k
    simp only [chTo]
    rw [Nat.succ_mul]
    omega

theorem set_same {α : Type} (xs : List α) (j : Nat) (v : α) (h : xs[j]? = some v) : xs.set j v = xs := by
  apply List.ext_getElem?
  intro i
  by_cases e : i = j
  · subst e
    rw [List.getElem?_set_self (List.getElem?_eq_some_iff.1 h).1, h]
  · rw [List.getElem?_set_ne (Ne.symm e)]
theorem encLY_set2 (l : List Yt) (i : Nat) (hi : i < l.length) (u : Int) : encLY (l.set i ((nthY l i).1, (nthY l i).2.1, u)) = (encLY l).set (i * 3 + 2) (.int .i64 u) := by
  obtain ⟨h0, h1, _⟩ := encLY_get l i hi
  rw [encLY_set _ l i hi]
  dsimp only
  rw [set_same (encLY l) (i * 3) _ h0, set_same (encLY l) (i * 3 + 1) _ h1]
theorem YsO.set2 {w : World} {B g n c : Nat} {l : List Yt} (h : YsO w B (.slice (some ⟨g, 0, none⟩) n c) l) (hn : l.length = n) (i : Nat) (hi : i < l.length) (u : Int) :
    YsO (w.setCell ⟨g, i * 3 + 2, none⟩ (.int .i64 u)) B (.slice (some ⟨g, 0, none⟩) n c) (l.set i ((nthY l i).1, (nthY l i).2.1, u)) := by
  subst hn
  have h1 := (World.ownsRow.stored h (i * 3 + 2) (.int .i64 u)).1
  unfold YsO
  rw [List.length_set, encLY_set2 l i hi]
  exact h1
theorem YsO.grownNC {w w' : World} {B : Nat} {v : Value} {l : List Yt} {row : Option Nat} (h : YsO w B v l) (hg : w.grownBy w' row) (hr : ∀ r, row = some r → ∃ o : Obj, w.heap[r]? = some o ∧ o.isCells = false) : YsO w' B v l := by
  refine ⟨h.1, ?_⟩
  rcases h.2 with h0 | ⟨g, cap, cur, h1, h2, h3, h4⟩
  · exact .inl h0
  · exact .inr ⟨g, cap, cur, h1, h2, blk_kept h3 hg hr, h4⟩
theorem YsO.setFar {w : World} {B p : Nat} {v u : Value} {l : List Yt} (h : YsO w B v l) (hp : p < B) : YsO (w.setCell ⟨p, 0, none⟩ u) B v l := by
  refine ⟨h.1, ?_⟩
  rcases h.2 with h0 | ⟨g, cap, cur, h1, h2, h3, h4⟩
  · exact .inl h0
  · exact .inr ⟨g, cap, cur, h1, h2, (Below.heap_setCell _ _ _ _ (show g ≠ p by omega)).trans h3, h4⟩
theorem YsO.cells {w w' : World} {B : Nat} {v : Value} {l : List Yt} (h : YsO w B v l) (hk : ∀ (k : Nat) (o : Obj), w.heap[k]? = some o → o.isCells = true → w'.heap[k]? = some o) : YsO w' B v l := by
  refine ⟨h.1, ?_⟩
  rcases h.2 with h0 | ⟨g, cap, cur, h1, h2, h3, h4⟩
  · exact .inl h0
  · exact .inr ⟨g, cap, cur, h1, h2, hk _ _ h3 rfl, h4⟩
theorem YsO.block {w : World} {B g n c : Nat} {l : List Yt} (h : YsO w B (.slice (some ⟨g, 0, none⟩) n c) l) : B ≤ g ∧ ∃ cur, w.heap[g]? = some (.cells cur 40 (0, 0)) := by
  rcases h.2 with ⟨h0, _⟩ | ⟨g', cap', cur, h', hb, hg, _⟩
  · cases h0
  · simp only [Value.slice.injEq, Option.some.injEq, Addr.mk.injEq] at h'
    obtain ⟨⟨rfl, -⟩, -, -⟩ := h'
    exact ⟨hb, cur, hg⟩

/-- What Changed may write to. -/
def ownC (w : World) (k : Nat) (o : Obj) : Prop := (k = w.heap.size + 1 + 1 + 1 ∧ ∃ cs f, o = .cells cs 34 f) ∨ (w.heap.size + 4 ≤ k ∧ ∃ cs f, o = .cells cs 40 f)
structure ChR (w W : World) (a : Option Addr) (n cap : Nat) (bef aft : Int) (xs : List Yt) : Prop where
  s0 : W.heap[w.heap.size]? = some (.cells #[.slice a n cap] 22 (0, 0))
  s1 : W.heap[w.heap.size + 1]? = some (.cells #[.int .i64 bef] 3 (0, 0))
  s2 : W.heap[w.heap.size + 1 + 1]? = some (.cells #[.int .i64 aft] 3 (0, 0))
  s3 : ∃ v, W.heap[w.heap.size + 1 + 1 + 1]? = some (.cells #[v] 34 (0, 0)) ∧ YsO W (w.heap.size + 4) v xs
  bel : Below w.heap.size w W
  bb : w.heap.size + 4 ≤ W.heap.size
theorem ChR.grown {w A B : World} {a : Option Addr} {n cap : Nat} {bef aft : Int} {xs : List Yt} {r : Option Nat} (h : ChR w A a n cap bef aft xs) (hg : A.grownBy B r) (hr : ∀ q, r = some q → w.heap.size ≤ q ∧ ∃ o : Obj, A.heap[q]? = some o ∧ o.isCells = false) : ChR w B a n cap bef aft xs := by
  have hr' : ∀ q, r = some q → ∃ o : Obj, A.heap[q]? = some o ∧ o.isCells = false := fun q e => (hr q e).2
  obtain ⟨h0, h1, h2, ⟨v, h3, h3'⟩, h4, h5⟩ := h
  exact ⟨blk_kept h0 hg hr', blk_kept h1 hg hr', blk_kept h2 hg hr', ⟨v, blk_kept h3 hg hr', h3'.grownNC hg hr'⟩, h4.trans ⟨hg.os, hg.tape, hg.output, hg.size, fun k hk => hg.block k (by have := h4.size; omega) (fun e => by have := (hr k e.symm).1; omega)⟩, Nat.le_trans h5 hg.size⟩
theorem ChR.below {w A B : World} {a : Option Addr} {n cap : Nat} {bef aft : Int} {xs : List Yt} (h : ChR w A a n cap bef aft xs) (hb : Below A.heap.size A B) : ChR w B a n cap bef aft xs :=
  h.grown (grown_of_below hb) (fun r e => by cases e)
/-- The last one becomes longer. -/
theorem ChR.set {w W : World} {a : Option Addr} {n cap g m c i : Nat} {bef aft : Int} {xs : List Yt} (h : ChR w W a n cap bef aft xs) (hv : W.heap[w.heap.size + 1 + 1 + 1]? = some (.cells #[.slice (some ⟨g, 0, none⟩) m c] 34 (0, 0))) (hO : YsO W (w.heap.size + 4) (.slice (some ⟨g, 0, none⟩) m c) xs) (hm : xs.length = m) (hi : i < xs.length) (u : Int) :
    KeepsOthers W (W.setCell ⟨g, i * 3 + 2, none⟩ (.int .i64 u)) ∧ KpO (ownC w) W (W.setCell ⟨g, i * 3 + 2, none⟩ (.int .i64 u)) ∧ ChR w (W.setCell ⟨g, i * 3 + 2, none⟩ (.int .i64 u)) a n cap bef aft (xs.set i ((nthY xs i).1, (nthY xs i).2.1, u)) := by
  obtain ⟨hg, cur, hc⟩ := hO.block
  have far : ∀ q ob, q ≠ g → W.heap[q]? = some ob → (W.setCell ⟨g, i * 3 + 2, none⟩ (.int .i64 u)).heap[q]? = some ob := fun q ob hq hw => (Below.heap_setCell W ⟨g, i * 3 + 2, none⟩ (.int .i64 u) q hq).trans hw
  refine ⟨KeepsOthers.setCell _ _ _, ⟨by simp, fun k ob hk _ hn => far _ _ (fun e => hn (.inr ⟨by omega, by subst e; rw [hc] at hk; cases hk; exact ⟨_, _, rfl⟩⟩)) hk⟩, ⟨far _ _ (by omega) h.s0, far _ _ (by omega) h.s1, far _ _ (by omega) h.s2, ⟨_, far _ _ (by omega) hv, hO.set2 hm i hi u⟩, h.bel.setCell (p := ⟨g, i * 3 + 2, none⟩) (show w.heap.size ≤ g by omega) _, by rw [World.size_setCell]; exact h.bb⟩⟩
/-- One more. -/
theorem ChR.push {w W w2 : World} {a : Option Addr} {n cap : Nat} {bef aft : Int} {xs : List Yt} {y : Yt} {v v' : Value} {o : Obj} (h : ChR w W a n cap bef aft xs) (hv : W.heap[w.heap.size + 1 + 1 + 1]? = some (.cells #[v] 34 (0, 0))) (hI : YsO W (w.heap.size + 4) v xs)
    (hO : YsO w2 (w.heap.size + 4) v' (xs ++ [y])) (hg : (W.alloc o).grownBy w2 v.ownBlock) :
    KeepsOthers W (w2.setCell ⟨w.heap.size + 1 + 1 + 1, 0, none⟩ v') ∧ KpO (ownC w) W (w2.setCell ⟨w.heap.size + 1 + 1 + 1, 0, none⟩ v') ∧ ChR w (w2.setCell ⟨w.heap.size + 1 + 1 + 1, 0, none⟩ v') a n cap bef aft (xs ++ [y]) := by
  have hsz : W.heap.size + 1 ≤ w2.heap.size := by have := hg.size; rwa [World.size_alloc] at this
  have own : ∀ g, v.ownBlock = some g → w.heap.size + 4 ≤ g ∧ ∃ cur, W.heap[g]? = some (.cells cur 40 (0, 0)) := by
    intro g hq
    rcases hI.2 with ⟨h0, _⟩ | ⟨q, cp, cur, e1, e2, e3, _⟩
    · rw [h0] at hq; cases hq
    · rw [e1] at hq; cases hq; exact ⟨e2, cur, e3⟩
  have keep : ∀ q ob, W.heap[q]? = some ob → some q ≠ v.ownBlock → w2.heap[q]? = some ob := fun q ob hq hn => by
    have hlt := (Array.getElem?_eq_some_iff.1 hq).1
    rw [hg.block q (by rw [World.size_alloc]; omega) hn]
    exact (Below.heap_alloc W _ q hlt).trans hq
  have low : ∀ q ob, q < w.heap.size + 4 → W.heap[q]? = some ob → w2.heap[q]? = some ob := fun q ob hq hw => keep q ob hw fun e => by have := (own q e.symm).1; omega
  have far : ∀ q ob, q ≠ w.heap.size + 1 + 1 + 1 → w2.heap[q]? = some ob → (w2.setCell ⟨w.heap.size + 1 + 1 + 1, 0, none⟩ v').heap[q]? = some ob := fun q ob hq hw => (Below.heap_setCell w2 ⟨w.heap.size + 1 + 1 + 1, 0, none⟩ v' q hq).trans hw
  have hBB : Below (w.heap.size + 4) W w2 := ⟨hg.os, hg.tape, hg.output, by omega, fun k hk => by
    have hkW : k < W.heap.size := by have := h.bb; omega
    exact (hg.block k (by rw [World.size_alloc]; omega) fun e => by have := (own k e.symm).1; omega).trans (Below.heap_alloc W _ k hkW)⟩
  refine ⟨?_, ⟨by rw [World.size_setCell]; omega, fun k ob hk hc hn => ?_⟩, ⟨far _ _ (by omega) (low _ _ (by omega) h.s0), far _ _ (by omega) (low _ _ (by omega) h.s1), far _ _ (by omega) (low _ _ (by omega) h.s2), ⟨v', one_setCell (low _ _ (by omega) hv), hO.setFar (by omega)⟩, (h.bel.trans (hBB.mono (by omega))).setCell (p := ⟨w.heap.size + 1 + 1 + 1, 0, none⟩) (show w.heap.size ≤ w.heap.size + 1 + 1 + 1 by omega) _, by rw [World.size_setCell]; have := h.bb; omega⟩⟩
  · refine KeepsOthers.trans ⟨by omega, fun k ob hk hc => keep k ob hk fun e => ?_⟩ (KeepsOthers.setCell _ _ _)
    obtain ⟨_, cur, hw⟩ := own k e.symm
    rw [hk] at hw; cases hw; cases hc
  · refine far _ _ (fun e => hn (.inl ⟨e, by subst e; rw [hv] at hk; cases hk; exact ⟨_, _, rfl⟩⟩)) (keep k ob hk fun e => ?_)
    obtain ⟨hg1, cur, hw⟩ := own k e.symm
    rw [hk] at hw; cases hw
    exact hn (.inr ⟨hg1, cur, _, rfl⟩)

/-- The marks of ranges over functions that are done. -/
def mk (D : Nat) : Deferred := { target := .collected D, args := #[] }
structure Marks (B E : Nat) (Ds : List Nat) (W : World) : Prop where
  nd : Ds.Nodup
  at' : ∀ D ∈ Ds, B ≤ D ∧ D < E ∧ W.heap[D]? = some (.deferred (some []))
theorem Marks.keeps {B E : Nat} {Ds : List Nat} {W W' : World} (h : Marks B E Ds W) (hk : KeepsOthers W W') : Marks B E Ds W' :=
  ⟨h.nd, fun D hD => ⟨(h.at' D hD).1, (h.at' D hD).2.1, hk.same _ _ (h.at' D hD).2.2 rfl⟩⟩
theorem Marks.cons {B E E' D : Nat} {Ds : List Nat} {W : World} (h : Marks B E Ds W) (hE : E ≤ D) (hB : B ≤ E) (hE' : D < E') (hD : W.heap[D]? = some (.deferred (some []))) : Marks B E' (D :: Ds) W :=
  ⟨List.nodup_cons.2 ⟨fun hm => by have := (h.at' D hm).2.1; omega, h.nd⟩, fun D' hm => by
    rcases List.mem_cons.1 hm with rfl | hm
    · exact ⟨by omega, hE', hD⟩
    · have := h.at' D' hm; exact ⟨this.1, by omega, this.2.2⟩⟩
theorem KeepsOthers.of_below {W W' : World} (h : Below W.heap.size W W') : KeepsOthers W W' := keeps_below h
theorem leaves_marks {F : Fence} {n : Nat} {P : Program} {fn : Func} {tmps : Array Value} {R : Ending → World → Prop} {B E : Nat} : ∀ (Ds : List Nat) (W : World), Marks B E Ds W →
    (∀ W', Below B W W' → (∀ (k : Nat) (o : Obj), W.heap[k]? = some o → o.isCells = true → W'.heap[k]? = some o) → ∃ v, (results fn tmps).run P W' = .ok v W' ∧ R (.returned v) W') → LeavesInM F n P fn tmps R (Ds.map mk) .returning W
  | [], W, _, h => h W (Below.refl _ _) (fun _ _ h _ => h)
  | D :: Ds, W, hM, h => by
    obtain ⟨hB, hE, hD⟩ := hM.at' D (List.mem_cons_self ..)
    have hlt := (Array.getElem?_eq_some_iff.1 hD).1
    refine ⟨by simp, .inl ⟨D, _, rfl, run_takeDeferred hD, ?_⟩⟩
    have hb : Below B W (W.putObj D (.deferred none)) := ⟨rfl, rfl, rfl, by simp, fun k hk => World.putObj_heap_other (by omega)⟩
    refine leaves_marks (B := B) (E := E) Ds _ ⟨(List.nodup_cons.1 hM.nd).2, fun D' hm => ?_⟩ (fun W' hb' hk' => h W' (hb.trans hb') fun k o hk hc => hk' k o ((World.putObj_heap_other (fun e => by subst e; rw [hD] at hk; cases hk; cases hc)).trans hk) hc)
    have := hM.at' D' (List.mem_cons_of_mem _ hm)
    exact ⟨this.1, this.2.1, (World.putObj_heap_other (fun e => by subst e; exact (List.nodup_cons.1 hM.nd).1 hm)).trans this.2.2⟩
theorem run_eq_C (x y : Cn) (w : World) : (binOp .eql 56 (vC x) (vC y)).run Try.prog w = .ok (.bool (decide (x = y))) w := by
  obtain ⟨a, b, c⟩ := x
  obtain ⟨d, e, f⟩ := y
  have h : (decide ((a, b, c) = (d, e, f))) = (decide (a = d) && (decide (b = e) && decide (c = f))) := by
    rw [Bool.eq_iff_iff]; simp
  rw [h]
  dsimp only [vC]
  go_simp
  by_cases h1 : a = d <;> by_cases h2 : b = e <;> by_cases h3 : c = f <;> simp [h1, h2, h3]
section
variable {ops : Array Oper} {o : Oper} {rest : List Oper} {a : Act} {Q : Exit → Act → World → Prop} {w : World} {F : Fence} {n : Nat}
theorem wpListIn_append_Y (hgd : o.guard = none) (s x : Operand) (ho : o.op = .call { callee := .builtin .append, args := #[s, x], argTypes := #[34, 34] })
    (B : Nat) (v : Value) (l : List Yt) (hs : a.eval s = v) (hown : YsO w B v l) (g : Nat) (m : Yt) (hx : a.eval x = .slice (some ⟨g, 0, none⟩) 1 1) (tb : TypeId) (fr : Nat × Nat)
    (hc : w.heap[g]? = some (.cells #[.int .i64 m.1, .int .i64 m.2.1, .int .i64 m.2.2] tb fr)) (hlen : l.length ≤ 1200000) (hB : B ≤ w.heap.size)
    (h : ∀ v' w', YsO w' B v' (l ++ [m]) → Below B w w' → w.grownBy w' v.ownBlock → wpListIn F n Try.prog ops Q rest (a.put o.dst v') w') : wpListIn F n Try.prog ops Q (o :: rest) a w := by
  obtain ⟨i0, hi, hz0, hz1, hz2⟩ := info_parts info_Y
  refine wpListIn_append_own w hgd s x 34 ho B 40 i0 (.agg #[.int .i64 0, .int .i64 0, .int .i64 0]) 3 24 Try.underlying34 hi hz0 hz1 hz2 rfl (by decide) v l.length _ hs hown ⟨g, 0, none⟩ 1 1 (encY m) hx rfl ?_ ?_ (by unfold maxLen; omega) (by omega) hB ?_
  · exact fun j u hj => World.news_of_block hc j u (by simpa [encY] using hj)
  · intro u hu; exact encLY_cells [m] u (by rw [encLY_one]; exact hu)
  · intro v' w' h1 h2 _
    refine h v' w' ?_ ((Below.refl B w).grown h2 hB fun k hk => (World.ownsRow.lt hown k hk).1) h2
    unfold YsO
    rw [encLY_app, encLY_one, List.length_append]
    exact h1
end
end Go.Proofs.Ytjedpemjifcciaa
