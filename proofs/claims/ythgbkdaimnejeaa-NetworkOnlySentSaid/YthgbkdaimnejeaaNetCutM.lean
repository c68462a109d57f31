/- What Cut keeps in memory (layer 6). -/
import Derived.Test.YthgbkdaimnejeaaNetOth
import Derived.Test.YthgbkdaimnejeaaNetDel
namespace Go.Proofs.Ythgbkdaimnejeaa
open Go.ChangeShapes Go.WideShapes Go.ChangeAt Go.RowKit Go.Shelf

/-- One pair more, and before it the pair that is cut. -/
def stepU (p : Qt) (s : List Qt × Bool) (q : Qt) : List Qt × Bool := if s.2 = true ∧ ltQ p q then (s.1 ++ [p] ++ [q], false) else (s.1 ++ [q], s.2)
theorem stepU_both {p q : Qt} {xs : List Qt} (h : ltQ p q) : stepU p (xs, true) q = (xs ++ [p] ++ [q], false) := if_pos ⟨rfl, h⟩
theorem stepU_one {p q : Qt} {xs : List Qt} (h : ¬ ltQ p q) : stepU p (xs, true) q = (xs ++ [q], true) := if_neg fun g => h g.2
theorem stepU_off {p q : Qt} {xs : List Qt} : stepU p (xs, false) q = (xs ++ [q], false) := if_neg fun g => by cases g.1
def foldU (p : Qt) (on : Bool) (l : List Qt) : List Qt × Bool := l.foldl (stepU p) ([], on)
theorem foldU_snoc (p : Qt) (on : Bool) (l : List Qt) (x : Qt) : foldU p on (l ++ [x]) = stepU p (foldU p on l) x := by unfold foldU; rw [List.foldl_append]; rfl
theorem stepU_len (p : Qt) (s : List Qt × Bool) (q : Qt) : (stepU p s q).1.length ≤ s.1.length + 2 := by unfold stepU; split <;> simp
theorem foldlU_len (p : Qt) : ∀ (l : List Qt) (s : List Qt × Bool), (l.foldl (stepU p) s).1.length ≤ s.1.length + 2 * l.length
  | [], s => by simp
  | x :: l, s => by
    have h1 := foldlU_len p l (stepU p s x)
    have h2 := stepU_len p s x
    simp only [List.foldl_cons, List.length_cons]
    omega
theorem foldU_len (p : Qt) (on : Bool) (l : List Qt) : (foldU p on l).1.length ≤ 2 * l.length := by have := foldlU_len p l ([], on); simpa [foldU] using this
/-- The pairs behind a cut. -/
def cutL (A : List Qt) (p : Qt) (on : Bool) : List Qt := if (foldU p on (A.filter (fun x => decide (x ≠ p)))).2 then (foldU p on (A.filter (fun x => decide (x ≠ p)))).1 ++ [p] else (foldU p on (A.filter (fun x => decide (x ≠ p)))).1
/-- Sorted pairs of parties are few. -/
theorem okAn_code {A : List Qt} {n : Nat} (h : okAn A n) : ∀ i, i < n → (i : Int) ≤ 16 * (nthQ A i).1 + (nthQ A i).2
  | 0, hi => by
    have := (h 0 hi).1
    unfold prt at this; omega
  | i + 1, hi => by
    have ih := okAn_code h i (by omega)
    have h1 := h (i + 1) hi
    have h0 := h i (by omega)
    have hl := h1.2.2 (by omega)
    rw [Nat.add_sub_cancel] at hl
    have p1 := h1.1; have p0 := h0.1
    unfold ltQ at hl
    unfold prt at p1 p0
    omega
theorem okAn_len {A : List Qt} (h : okAn A A.length) : A.length ≤ 256 := by
  rcases Nat.eq_zero_or_pos A.length with h0 | h0
  · omega
  · have h1 := okAn_code h (A.length - 1) (by omega)
    have h2 := (h (A.length - 1) (by omega)).1
    unfold prt at h2; omega
theorem filter_len (A : List Qt) (p : Qt) : (A.filter (fun x => decide (x ≠ p))).length ≤ A.length := List.length_filter_le _ _

theorem one_setCell {w : World} {b : Nat} {x u : Value} {t : TypeId} (h : w.heap[b]? = some (.cells #[x] t (0, 0))) : (w.setCell ⟨b, 0, none⟩ u).heap[b]? = some (.cells #[u] t (0, 0)) := cells_setQ h
theorem QsO.grownNC {w w' : World} {B : Nat} {v : Value} {l : List Qt} {row : Option Nat} (h : QsO w B v l) (hg : w.grownBy w' row) (hr : ∀ r, row = some r → ∃ o : Obj, w.heap[r]? = some o ∧ o.isCells = false) : QsO w' B v l := by
  refine ⟨h.1, ?_⟩
  rcases h.2 with h0 | ⟨g, cap, cur, h1, h2, h3, h4⟩
  · exact .inl h0
  · exact .inr ⟨g, cap, cur, h1, h2, blk_kept h3 hg hr, h4⟩
theorem QsO.setFar {w : World} {B p i : Nat} {v u : Value} {l : List Qt} (h : QsO w B v l) (hp : p < B) : QsO (w.setCell ⟨p, i, none⟩ u) B v l := by
  refine ⟨h.1, ?_⟩
  rcases h.2 with h0 | ⟨g, cap, cur, h1, h2, h3, h4⟩
  · exact .inl h0
  · exact .inr ⟨g, cap, cur, h1, h2, (Below.heap_setCell _ _ _ _ (show g ≠ p by omega)).trans h3, h4⟩
theorem QsO.cells {w w' : World} {B : Nat} {v : Value} {l : List Qt} (h : QsO w B v l) (hk : ∀ (k : Nat) (o : Obj), w.heap[k]? = some o → o.isCells = true → w'.heap[k]? = some o) : QsO w' B v l := by
  refine ⟨h.1, ?_⟩
  rcases h.2 with h0 | ⟨g, cap, cur, h1, h2, h3, h4⟩
  · exact .inl h0
  · exact .inr ⟨g, cap, cur, h1, h2, hk _ _ h3 rfl, h4⟩

/-- What Cut may write to. -/
def ownU (w : World) (X : Nat) (k : Nat) (o : Obj) : Prop := (k = w.heap.size + 1 ∧ ∃ cs f, o = .cells cs 4 f) ∨ (k = X + 1 ∧ ∃ cs f, o = .cells cs 23 f) ∨ (X + 4 ≤ k ∧ ∃ cs f, o = .cells cs 55 f)
structure CuR (w W : World) (X : Nat) (nq np : Value) (p : Qt) (xs : List Qt) (on : Bool) : Prop where
  s0 : W.heap[w.heap.size]? = some (.cells #[nq, np] 25 (0, 0))
  s1 : W.heap[w.heap.size + 1]? = some (.cells #[.bool on] 4 (0, 0))
  s2 : W.heap[w.heap.size + 1 + 1]? = some (.cells #[.slice none 0 0, .slice none 0 0] 25 (0, 0))
  s3 : W.heap[X]? = some (.cells #[.int .i64 p.1, .int .i64 p.2] 55 (0, 0))
  s4 : ∃ v, W.heap[X + 1]? = some (.cells #[v] 23 (0, 0)) ∧ QsO W (X + 4) v xs
  bel : Below w.heap.size w W
  xx : w.heap.size + 1 + 1 < X
  bb : X + 4 ≤ W.heap.size
theorem CuR.grown {w A B : World} {X : Nat} {nq np : Value} {p : Qt} {xs : List Qt} {on : Bool} {r : Option Nat} (h : CuR w A X nq np p xs on) (hg : A.grownBy B r) (hr : ∀ q, r = some q → w.heap.size ≤ q ∧ ∃ o : Obj, A.heap[q]? = some o ∧ o.isCells = false) : CuR w B X nq np p xs on := by
  have hr' : ∀ q, r = some q → ∃ o : Obj, A.heap[q]? = some o ∧ o.isCells = false := fun q e => (hr q e).2
  obtain ⟨h0, h1, h2, h3, ⟨v, h4, h4'⟩, h5, h6, h7⟩ := h
  exact ⟨blk_kept h0 hg hr', blk_kept h1 hg hr', blk_kept h2 hg hr', blk_kept h3 hg hr', ⟨v, blk_kept h4 hg hr', h4'.grownNC hg hr'⟩, h5.trans ⟨hg.os, hg.tape, hg.output, hg.size, fun k hk => hg.block k (by have := h5.size; omega) (fun e => by have := (hr k e.symm).1; omega)⟩, h6, Nat.le_trans h7 hg.size⟩
theorem CuR.below {w A B : World} {X : Nat} {nq np : Value} {p : Qt} {xs : List Qt} {on : Bool} (h : CuR w A X nq np p xs on) (hb : Below A.heap.size A B) : CuR w B X nq np p xs on :=
  h.grown (grown_of_below hb) (fun r e => by cases e)
/-- The pair has been laid. -/
theorem CuR.off {w W : World} {X : Nat} {nq np : Value} {p : Qt} {xs : List Qt} {on : Bool} (h : CuR w W X nq np p xs on) :
    KeepsOthers W (W.setCell ⟨w.heap.size + 1, 0, none⟩ (.bool false)) ∧ KpO (ownU w X) W (W.setCell ⟨w.heap.size + 1, 0, none⟩ (.bool false)) ∧ CuR w (W.setCell ⟨w.heap.size + 1, 0, none⟩ (.bool false)) X nq np p xs false := by
  obtain ⟨h0, h1, h2, h3, ⟨v, h4, h4'⟩, h5, h6, h7⟩ := h
  have far : ∀ q ob, q ≠ w.heap.size + 1 → W.heap[q]? = some ob → (W.setCell ⟨w.heap.size + 1, 0, none⟩ (.bool false)).heap[q]? = some ob := fun q ob hq hw => (Below.heap_setCell W ⟨w.heap.size + 1, 0, none⟩ (.bool false) q hq).trans hw
  exact ⟨KeepsOthers.setCell _ _ _, ⟨by simp, fun k ob hk _ hn => far _ _ (fun e => hn (.inl ⟨e, by subst e; rw [h1] at hk; cases hk; exact ⟨_, _, rfl⟩⟩)) hk⟩, far _ _ (by omega) h0, one_setCell h1, far _ _ (by omega) h2, far _ _ (by omega) h3, ⟨v, far _ _ (by omega) h4, h4'.setFar (by omega)⟩, h5.setCell (p := ⟨w.heap.size + 1, 0, none⟩) (show w.heap.size ≤ w.heap.size + 1 by omega) _, h6, by rw [World.size_setCell]; exact h7⟩
theorem CuR.offQ {W : World} {b : Nat} {X : Nat} {v : Value} {xs : List Qt} (hO : QsO W (X + 4) v xs) (hb : b + 1 < X + 4) : QsO (W.setCell ⟨b + 1, 0, none⟩ (.bool false)) (X + 4) v xs := hO.setFar hb
theorem QsO.len3 {w : World} {B n c : Nat} {a : Option Addr} {xs : List Qt} (h : QsO w B (.slice a n c) xs) : xs.length = n := by
  obtain ⟨a', b', c', h', _⟩ := h.s
  cases h'; rfl
/-- One more. -/
theorem CuR.push {w W w2 : World} {X : Nat} {nq np : Value} {p y : Qt} {xs : List Qt} {on : Bool} {v v' : Value} {o : Obj} (h : CuR w W X nq np p xs on) (hv : W.heap[X + 1]? = some (.cells #[v] 23 (0, 0))) (hI : QsO W (X + 4) v xs)
    (hO : QsO w2 (X + 4) v' (xs ++ [y])) (hg : (W.alloc o).grownBy w2 v.ownBlock) :
    KeepsOthers W (w2.setCell ⟨X + 1, 0, none⟩ v') ∧ KpO (ownU w X) W (w2.setCell ⟨X + 1, 0, none⟩ v') ∧ CuR w (w2.setCell ⟨X + 1, 0, none⟩ v') X nq np p (xs ++ [y]) on ∧
    (w2.setCell ⟨X + 1, 0, none⟩ v').heap[X + 1]? = some (.cells #[v'] 23 (0, 0)) ∧ QsO (w2.setCell ⟨X + 1, 0, none⟩ v') (X + 4) v' (xs ++ [y]) ∧ (∀ q ob, W.heap[q]? = some ob → some q ≠ v.ownBlock → q ≠ X + 1 → (w2.setCell ⟨X + 1, 0, none⟩ v').heap[q]? = some ob) := by
  have hsz : W.heap.size + 1 ≤ w2.heap.size := by have := hg.size; rwa [World.size_alloc] at this
  have own : ∀ g, v.ownBlock = some g → X + 4 ≤ g ∧ ∃ cur, W.heap[g]? = some (.cells cur 55 (0, 0)) := by
    intro g hq
    rcases hI.2 with ⟨h0, _⟩ | ⟨q, cp, cur, e1, e2, e3, _⟩
    · rw [h0] at hq; cases hq
    · rw [e1] at hq; cases hq; exact ⟨e2, cur, e3⟩
  have keep : ∀ q ob, W.heap[q]? = some ob → some q ≠ v.ownBlock → w2.heap[q]? = some ob := fun q ob hq hn => by
    have hlt := (Array.getElem?_eq_some_iff.1 hq).1
    rw [hg.block q (by rw [World.size_alloc]; omega) hn]
    exact (Below.heap_alloc W _ q hlt).trans hq
  have low : ∀ q ob, q < X + 4 → W.heap[q]? = some ob → w2.heap[q]? = some ob := fun q ob hq hw => keep q ob hw fun e => by have := (own q e.symm).1; omega
  have far : ∀ q ob, q ≠ X + 1 → w2.heap[q]? = some ob → (w2.setCell ⟨X + 1, 0, none⟩ v').heap[q]? = some ob := fun q ob hq hw => (Below.heap_setCell w2 ⟨X + 1, 0, none⟩ v' q hq).trans hw
  have hxx := h.xx
  have hBB : Below (X + 4) W w2 := ⟨hg.os, hg.tape, hg.output, by omega, fun k hk => by
    have hkW : k < W.heap.size := by have := h.bb; omega
    exact (hg.block k (by rw [World.size_alloc]; omega) fun e => by have := (own k e.symm).1; omega).trans (Below.heap_alloc W _ k hkW)⟩
  refine ⟨?_, ⟨by rw [World.size_setCell]; omega, fun k ob hk hc hn => ?_⟩, ⟨far _ _ (by omega) (low _ _ (by omega) h.s0), far _ _ (by omega) (low _ _ (by omega) h.s1), far _ _ (by omega) (low _ _ (by omega) h.s2), far _ _ (by omega) (low _ _ (by omega) h.s3), ⟨v', one_setCell (low _ _ (by omega) hv), hO.setFar (by omega)⟩, (h.bel.trans (hBB.mono (by omega))).setCell (p := ⟨X + 1, 0, none⟩) (show w.heap.size ≤ X + 1 by omega) _, h.xx, by rw [World.size_setCell]; have := h.bb; omega⟩, one_setCell (low _ _ (by omega) hv), hO.setFar (by omega), fun q ob h1 h2 h3 => far _ _ h3 (keep q ob h1 h2)⟩
  · refine KeepsOthers.trans ⟨by omega, fun k ob hk hc => keep k ob hk fun e => ?_⟩ (KeepsOthers.setCell _ _ _)
    obtain ⟨_, cur, hw⟩ := own k e.symm
    rw [hk] at hw; cases hw; cases hc
  · refine far _ _ (fun e => hn (.inr (.inl ⟨e, by subst e; rw [hv] at hk; cases hk; exact ⟨_, _, rfl⟩⟩))) (keep k ob hk fun e => ?_)
    obtain ⟨hg1, cur, hw⟩ := own k e.symm
    rw [hk] at hw; cases hw
    exact hn (.inr (.inr ⟨hg1, cur, _, rfl⟩))

/-- The marks of ranges over functions that are done. -/
def mk (D : Nat) : Deferred := { target := .collected D, args := #[] }
structure Marks (B E : Nat) (Ds : List Nat) (W : World) : Prop where
  nd : Ds.Nodup
  at' : ∀ D ∈ Ds, B ≤ D ∧ D < E ∧ W.heap[D]? = some (.deferred (some []))
theorem Marks.keeps {B E : Nat} {Ds : List Nat} {W W' : World} (h : Marks B E Ds W) (hk : KeepsOthers W W') : Marks B E Ds W' :=
  ⟨h.nd, fun D hD => ⟨(h.at' D hD).1, (h.at' D hD).2.1, hk.same _ _ (h.at' D hD).2.2 rfl⟩⟩
theorem Marks.cons {B E E' D : Nat} {Ds : List Nat} {W : World} (h : Marks B E Ds W) (hE : E ≤ D) (hB : B ≤ E) (hE' : D < E') (hD : W.heap[D]? = some (.deferred (some []))) : Marks B E' (D :: Ds) W :=
  ⟨List.nodup_cons.2 ⟨fun hm => by have := (h.at' D hm).2.1; omega, h.nd⟩, fun D' hm => by
    rcases List.mem_cons.1 hm with rfl | hm
    · exact ⟨by omega, hE', hD⟩
    · have := h.at' D' hm; exact ⟨this.1, by omega, this.2.2⟩⟩
theorem KeepsOthers.of_below {W W' : World} (h : Below W.heap.size W W') : KeepsOthers W W' := keeps_below h
theorem leaves_marks {F : Fence} {n : Nat} {P : Program} {fn : Func} {tmps : Array Value} {R : Ending → World → Prop} {B E : Nat} : ∀ (Ds : List Nat) (W : World), Marks B E Ds W →
    (∀ W', Below B W W' → (∀ (k : Nat) (o : Obj), W.heap[k]? = some o → o.isCells = true → W'.heap[k]? = some o) → ∃ v, (results fn tmps).run P W' = .ok v W' ∧ R (.returned v) W') → LeavesInM F n P fn tmps R (Ds.map mk) .returning W
  | [], W, _, h => h W (Below.refl _ _) (fun _ _ h _ => h)
  | D :: Ds, W, hM, h => by
    obtain ⟨hB, hE, hD⟩ := hM.at' D (List.mem_cons_self ..)
    have hlt := (Array.getElem?_eq_some_iff.1 hD).1
    refine ⟨by simp, .inl ⟨D, _, rfl, run_takeDeferred hD, ?_⟩⟩
    have hb : Below B W (W.putObj D (.deferred none)) := ⟨rfl, rfl, rfl, by simp, fun k hk => World.putObj_heap_other (by omega)⟩
    refine leaves_marks (B := B) (E := E) Ds _ ⟨(List.nodup_cons.1 hM.nd).2, fun D' hm => ?_⟩ (fun W' hb' hk' => h W' (hb.trans hb') fun k o hk hc => hk' k o ((World.putObj_heap_other (fun e => by subst e; rw [hD] at hk; cases hk; cases hc)).trans hk) hc)
    have := hM.at' D' (List.mem_cons_of_mem _ hm)
    exact ⟨this.1, this.2.1, (World.putObj_heap_other (fun e => by subst e; exact (List.nodup_cons.1 hM.nd).1 hm)).trans this.2.2⟩
section
variable {ops : Array Oper} {o : Oper} {rest : List Oper} {a : Act} {Q : Exit → Act → World → Prop} {w : World} {F : Fence} {n : Nat}
theorem wpListIn_append_Q (hgd : o.guard = none) (s x : Operand) (ho : o.op = .call { callee := .builtin .append, args := #[s, x], argTypes := #[23, 23] })
    (B : Nat) (v : Value) (l : List Qt) (hs : a.eval s = v) (hown : QsO w B v l) (g : Nat) (m : Qt) (hx : a.eval x = .slice (some ⟨g, 0, none⟩) 1 1) (tb : TypeId) (fr : Nat × Nat)
    (hc : w.heap[g]? = some (.cells #[.int .i64 m.1, .int .i64 m.2] tb fr)) (hlen : l.length ≤ 1200000) (hB : B ≤ w.heap.size)
    (h : ∀ v' w', QsO w' B v' (l ++ [m]) → Below B w w' → w.grownBy w' v.ownBlock → wpListIn F n Try.prog ops Q rest (a.put o.dst v') w') : wpListIn F n Try.prog ops Q (o :: rest) a w := by
  obtain ⟨i0, hi, hz0, hz1, hz2⟩ := info_parts info_Q
  refine wpListIn_append_own w hgd s x 23 ho B 55 i0 (.agg #[.int .i64 0, .int .i64 0]) 2 16 Try.underlying23 hi hz0 hz1 hz2 rfl (by decide) v l.length _ hs hown ⟨g, 0, none⟩ 1 1 (encQ m) hx rfl ?_ ?_ (by unfold maxLen; omega) (by omega) hB ?_
  · exact fun j u hj => World.news_of_block hc j u (by simpa [encQ] using hj)
  · intro u hu; exact encLQ_cells [m] u (by rw [encLQ_one]; exact hu)
  · intro v' w' h1 h2 _
    refine h v' w' ?_ ((Below.refl B w).grown h2 hB fun k hk => (World.ownsRow.lt hown k hk).1) h2
    unfold QsO
    rw [encLQ_app, encLQ_one, List.length_append]
    exact h1
end
end Go.Proofs.Ythgbkdaimnejeaa
