/- What Lay keeps in memory, and what it builds (layer 44). -/
import Derived.Test.YthnhnmmabjmjgaaOvdIter
import Derived.Test.YthnhnmmabjmjgaaGrowT
import Derived.ChangeKeysEq
import Derived.Laws.StructEq
namespace Go.Proofs.Ythnhnmmabjmjgaa
open Go.ChangeShapes Go.WideShapes Go.ChangeAt Go.RowKit Go.Shelf

/-- One part more. -/
def lastD (x : List Dt) : Dt := nthD x (x.length - 1)
def goesOn (b r : Dt) : Prop := r.1 = b.1 + b.2.1 ∧ r.2.2.1 = b.2.2.1 + b.2.1
instance (b r : Dt) : Decidable (goesOn b r) := by unfold goesOn; exact inferInstance
def passD (b r : Dt) : Int := if r.2.2.1 < b.2.2.1 + b.2.1 then b.2.2.2 + 1 else b.2.2.2
def stepD (x : List Dt) (r : Dt) : List Dt :=
  if x.length = 0 then [r] else if goesOn (lastD x) r then x.set (x.length - 1) ((lastD x).1, (lastD x).2.1 + r.2.1, (lastD x).2.2.1, (lastD x).2.2.2)
  else x ++ [(r.1, r.2.1, r.2.2.1, passD (lastD x) r)]
def layF (l : List Dt) : List Dt := l.foldl stepD []
theorem layF_snoc (l : List Dt) (r : Dt) : layF (l ++ [r]) = stepD (layF l) r := by unfold layF; rw [List.foldl_append]; rfl
theorem stepD_first {x : List Dt} {r : Dt} (h : x.length = 0) : stepD x r = [r] := if_pos h
theorem stepD_on {x : List Dt} {r : Dt} (h : x.length ≠ 0) (h2 : goesOn (lastD x) r) : stepD x r = x.set (x.length - 1) ((lastD x).1, (lastD x).2.1 + r.2.1, (lastD x).2.2.1, (lastD x).2.2.2) := (if_neg h).trans (if_pos h2)
theorem stepD_new {x : List Dt} {r : Dt} (h : x.length ≠ 0) (h2 : ¬ goesOn (lastD x) r) : stepD x r = x ++ [(r.1, r.2.1, r.2.2.1, passD (lastD x) r)] := (if_neg h).trans (if_neg h2)
def LaidOk (n : Int) (m : Nat) (b : Dt) : Prop := 0 ≤ b.1 ∧ 0 < b.2.1 ∧ b.1 + b.2.1 ≤ n ∧ 0 ≤ b.2.2.1 ∧ b.2.2.1 + b.2.1 ≤ 2199023255552 ∧ 0 ≤ b.2.2.2 ∧ b.2.2.2 ≤ m
theorem lastD_mem {x : List Dt} (h : x.length ≠ 0) : lastD x ∈ x := by
  unfold lastD nthD
  rw [List.getD_eq_getElem?_getD, List.getElem?_eq_getElem (show x.length - 1 < x.length by omega)]
  exact List.getElem_mem _
theorem stepD_len {x : List Dt} {r : Dt} : (stepD x r).length ≤ x.length + 1 := by
  unfold stepD
  split
  · simp
  · split <;> simp
theorem stepD_ok {n : Int} {x : List Dt} {r : Dt} (h : ∀ b ∈ x, LaidOk n x.length b) (hr : RunOk n r) : ∀ b ∈ stepD x r, LaidOk n (stepD x r).length b := by
  by_cases h0 : x.length = 0
  · rw [stepD_first h0]
    intro b hb
    rw [List.mem_singleton.1 hb]
    unfold RunOk at hr; unfold LaidOk; simp only [List.length_cons, List.length_nil]; omega
  have hl := h _ (lastD_mem h0)
  by_cases h1 : goesOn (lastD x) r
  · rw [stepD_on h0 h1]
    intro b hb
    rw [List.length_set]
    rcases List.mem_or_eq_of_mem_set hb with h | h
    · rename_i hx; exact hx b h
    · subst h
      unfold RunOk at hr; unfold goesOn at h1; unfold LaidOk at *; dsimp only; omega
  · rw [stepD_new h0 h1]
    intro b hb
    rw [List.length_append, List.length_singleton]
    rcases List.mem_append.1 hb with hb | hb
    · have := h b hb
      unfold LaidOk at *; omega
    · rw [List.mem_singleton.1 hb]
      unfold RunOk at hr; unfold LaidOk passD at *; dsimp only
      split <;> omega
theorem foldD_ok {n : Int} : ∀ (l x : List Dt), (∀ r ∈ l, RunOk n r) → (∀ b ∈ x, LaidOk n x.length b) → (∀ b ∈ l.foldl stepD x, LaidOk n (l.foldl stepD x).length b) ∧ (l.foldl stepD x).length ≤ x.length + l.length
  | [], x, _, h => ⟨h, by simp⟩
  | r :: l, x, hl, h => by
    have := foldD_ok l (stepD x r) (fun r' h' => hl r' (List.mem_cons_of_mem _ h')) (stepD_ok h (hl r (List.mem_cons_self ..)))
    have h2 := stepD_len (x := x) (r := r)
    simp only [List.foldl_cons, List.length_cons] at *
    exact ⟨this.1, by omega⟩
theorem layF_ok {n : Int} (pre : List (Ru n)) : (∀ b ∈ layF (ruL pre), LaidOk n (layF (ruL pre)).length b) ∧ (layF (ruL pre)).length ≤ pre.length := by
  have := foldD_ok (n := n) (ruL pre) [] (fun r hr => by obtain ⟨y, _, rfl⟩ := List.mem_map.1 hr; exact y.2) (fun b hb => by cases hb)
  unfold layF
  simpa using this

theorem cell_farD {W : World} {p q i j : Nat} {u : Value} {x : Option Value} (h : q ≠ p) (hc : W.cell? ⟨q, i, none⟩ = x) : (W.setCell ⟨p, j, none⟩ u).cell? ⟨q, i, none⟩ = x :=
  (World.cell?_of_block (a := ⟨q, i, none⟩) (Below.heap_setCell W ⟨p, j, none⟩ u q h)).trans hc
theorem one_setCell {w : World} {b : Nat} {x u : Value} {t : TypeId} (h : w.heap[b]? = some (.cells #[x] t (0, 0))) : (w.setCell ⟨b, 0, none⟩ u).heap[b]? = some (.cells #[u] t (0, 0)) := cells_setD h
theorem DsO.grownNC {w w' : World} {B : Nat} {v : Value} {l : List Dt} {row : Option Nat} (h : DsO w B v l) (hg : w.grownBy w' row) (hr : ∀ r, row = some r → ∃ o : Obj, w.heap[r]? = some o ∧ o.isCells = false) : DsO w' B v l := by
  refine ⟨h.1, ?_⟩
  rcases h.2 with h0 | ⟨g, cap, cur, h1, h2, h3, h4⟩
  · exact .inl h0
  · exact .inr ⟨g, cap, cur, h1, h2, blk_kept h3 hg hr, h4⟩
theorem DsO.setFar {w : World} {B p i : Nat} {v u : Value} {l : List Dt} (h : DsO w B v l) (hp : some p ≠ v.ownBlock) : DsO (w.setCell ⟨p, i, none⟩ u) B v l := by
  refine ⟨h.1, ?_⟩
  rcases h.2 with h0 | ⟨g, cap, cur, h1, h2, h3, h4⟩
  · exact .inl h0
  · exact .inr ⟨g, cap, cur, h1, h2, (Below.heap_setCell _ _ _ _ (show g ≠ p from fun e => hp (by rw [h1, e]; rfl))).trans h3, h4⟩
theorem DsO.cells {w w' : World} {B : Nat} {v : Value} {l : List Dt} (h : DsO w B v l) (hk : ∀ (k : Nat) (o : Obj), w.heap[k]? = some o → o.isCells = true → w'.heap[k]? = some o) : DsO w' B v l := by
  refine ⟨h.1, ?_⟩
  rcases h.2 with h0 | ⟨g, cap, cur, h1, h2, h3, h4⟩
  · exact .inl h0
  · exact .inr ⟨g, cap, cur, h1, h2, hk _ _ h3 rfl, h4⟩
theorem DsO.own {w : World} {B : Nat} {v : Value} {l : List Dt} (h : DsO w B v l) : ∀ g, v.ownBlock = some g → B ≤ g ∧ ∃ cur, w.heap[g]? = some (.cells cur 52 (0, 0)) := by
  intro g hq
  rcases h.2 with ⟨h0, _⟩ | ⟨q, cp, cur, e1, e2, e3, _⟩
  · rw [h0] at hq; cases hq
  · rw [e1] at hq; cases hq; exact ⟨e2, cur, e3⟩

theorem set_self {α : Type} {l : List α} {i : Nat} {v : α} (h : l[i]? = some v) : l.set i v = l := by
  apply List.ext_getElem?
  intro j
  rw [List.getElem?_set]
  split
  · rename_i e
    subst e
    split
    · exact h.symm
    · rename_i h2
      rw [List.getElem?_eq_none (by omega)]
  · rfl
theorem encLD_one_set {xs : List Dt} {i : Nat} (hi : i < xs.length) (u : Int) : (encLD xs).set (i * 4 + 1) (.int .i64 u) = encLD (xs.set i ((nthD xs i).1, u, (nthD xs i).2.2.1, (nthD xs i).2.2.2)) := by
  obtain ⟨e0, e1, e2, e3⟩ := encLD_get xs i hi
  rw [encLD_set _ _ _ hi]
  dsimp only
  rw [set_self e0, set_self (i := i * 4 + 2), set_self (i := i * 4 + 3)]
  · rw [List.getElem?_set_ne (by omega)]; exact e3
  · rw [List.getElem?_set_ne (by omega)]; exact e2
theorem DsO.stored1 {w : World} {B g n c : Nat} {l : List Dt} (h : DsO w B (.slice (some ⟨g, 0, none⟩) n c) l) (hn : l.length = n) (i : Nat) (hi : i < n) (u : Int) :
    DsO (w.setCell ⟨g, i * 4 + 1, none⟩ (.int .i64 u)) B (.slice (some ⟨g, 0, none⟩) n c) (l.set i ((nthD l i).1, u, (nthD l i).2.2.1, (nthD l i).2.2.2)) := by
  subst hn
  have h1 := (World.ownsRow.stored h (i * 4 + 1) (.int .i64 u)).1
  rw [encLD_one_set hi] at h1
  unfold DsO
  rw [List.length_set]
  exact h1
/-- What Lay may write to. -/
def ownV (w : World) (Y : Nat) (k : Nat) (o : Obj) : Prop := (k = w.heap.size ∧ ∃ cs f, o = .cells cs 24 f) ∨ (Y ≤ k ∧ ∃ cs f, o = .cells cs 52 f)
structure LaR (w W : World) (Y : Nat) (xs : List Dt) : Prop where
  s0 : ∃ v, W.heap[w.heap.size]? = some (.cells #[v] 24 (0, 0)) ∧ DsO W Y v xs
  bel : Below w.heap.size w W
  xx : w.heap.size < Y
  bb : Y ≤ W.heap.size
theorem LaR.grown {w A B : World} {Y : Nat} {xs : List Dt} {r : Option Nat} (h : LaR w A Y xs) (hg : A.grownBy B r) (hr : ∀ q, r = some q → w.heap.size ≤ q ∧ ∃ o : Obj, A.heap[q]? = some o ∧ o.isCells = false) : LaR w B Y xs := by
  have hr' : ∀ q, r = some q → ∃ o : Obj, A.heap[q]? = some o ∧ o.isCells = false := fun q e => (hr q e).2
  obtain ⟨⟨v, h0, h0'⟩, h5, h6, h7⟩ := h
  exact ⟨⟨v, blk_kept h0 hg hr', h0'.grownNC hg hr'⟩, h5.trans ⟨hg.os, hg.tape, hg.output, hg.size, fun k hk => hg.block k (by have := h5.size; omega) (fun e => by have := (hr k e.symm).1; omega)⟩, h6, Nat.le_trans h7 hg.size⟩
theorem LaR.below {w A B : World} {Y : Nat} {xs : List Dt} (h : LaR w A Y xs) (hb : Below A.heap.size A B) : LaR w B Y xs :=
  h.grown (grown_of_below hb) (fun r e => by cases e)
/-- One more. -/
theorem LaR.push {w W w2 : World} {Y : Nat} {y : Dt} {xs : List Dt} {v v' : Value} {o : Obj} (h : LaR w W Y xs) (hv : W.heap[w.heap.size]? = some (.cells #[v] 24 (0, 0))) (hI : DsO W Y v xs)
    (hO : DsO w2 Y v' (xs ++ [y])) (hg : (W.alloc o).grownBy w2 v.ownBlock) :
    KeepsOthers W (w2.setCell ⟨w.heap.size, 0, none⟩ v') ∧ KpO (ownV w Y) W (w2.setCell ⟨w.heap.size, 0, none⟩ v') ∧ LaR w (w2.setCell ⟨w.heap.size, 0, none⟩ v') Y (xs ++ [y]) := by
  have hsz : W.heap.size + 1 ≤ w2.heap.size := by have := hg.size; rwa [World.size_alloc] at this
  have own := hI.own
  have keep : ∀ q ob, W.heap[q]? = some ob → some q ≠ v.ownBlock → w2.heap[q]? = some ob := fun q ob hq hn => by
    have hlt := (Array.getElem?_eq_some_iff.1 hq).1
    rw [hg.block q (by rw [World.size_alloc]; omega) hn]
    exact (Below.heap_alloc W _ q hlt).trans hq
  have hxx := h.xx
  have low : ∀ q ob, q < Y → W.heap[q]? = some ob → w2.heap[q]? = some ob := fun q ob hq hw => keep q ob hw fun e => by have := (own q e.symm).1; omega
  have far : ∀ q ob, q ≠ w.heap.size → w2.heap[q]? = some ob → (w2.setCell ⟨w.heap.size, 0, none⟩ v').heap[q]? = some ob := fun q ob hq hw => (Below.heap_setCell w2 ⟨w.heap.size, 0, none⟩ v' q hq).trans hw
  have hBB : Below Y W w2 := ⟨hg.os, hg.tape, hg.output, by omega, fun k hk => by
    have hkW : k < W.heap.size := by have := h.bb; omega
    exact (hg.block k (by rw [World.size_alloc]; omega) fun e => by have := (own k e.symm).1; omega).trans (Below.heap_alloc W _ k hkW)⟩
  refine ⟨?_, ⟨by rw [World.size_setCell]; omega, fun k ob hk hc hn => ?_⟩, ⟨⟨v', one_setCell (low _ _ (by omega) hv), hO.setFar fun e => by have := (hO.own _ e.symm).1; omega⟩, (h.bel.trans (hBB.mono (by omega))).setCell (p := ⟨w.heap.size, 0, none⟩) (Nat.le_refl _) _, h.xx, by rw [World.size_setCell]; have := h.bb; omega⟩⟩
  · refine KeepsOthers.trans ⟨by omega, fun k ob hk hc => keep k ob hk fun e => ?_⟩ (KeepsOthers.setCell _ _ _)
    obtain ⟨_, cur, hw⟩ := own k e.symm
    rw [hk] at hw; cases hw; cases hc
  · refine far _ _ (fun e => hn (.inl ⟨e, by subst e; rw [hv] at hk; cases hk; exact ⟨_, _, rfl⟩⟩)) (keep k ob hk fun e => ?_)
    obtain ⟨hg1, cur, hw⟩ := own k e.symm
    rw [hk] at hw; cases hw
    exact hn (.inr ⟨hg1, cur, _, rfl⟩)
/-- A longer last one. -/
theorem LaR.longer {w W : World} {Y g m c : Nat} {xs : List Dt} {u : Int} (h : LaR w W Y xs) (hv : W.heap[w.heap.size]? = some (.cells #[.slice (some ⟨g, 0, none⟩) m c] 24 (0, 0))) (hI : DsO W Y (.slice (some ⟨g, 0, none⟩) m c) xs) (hm : xs.length = m) (i : Nat) (hi : i < m) :
    KeepsOthers W (W.setCell ⟨g, i * 4 + 1, none⟩ (.int .i64 u)) ∧ KpO (ownV w Y) W (W.setCell ⟨g, i * 4 + 1, none⟩ (.int .i64 u)) ∧ LaR w (W.setCell ⟨g, i * 4 + 1, none⟩ (.int .i64 u)) Y (xs.set i ((nthD xs i).1, u, (nthD xs i).2.2.1, (nthD xs i).2.2.2)) := by
  obtain ⟨hYg, cur, hcur⟩ := hI.own g rfl
  have hxx := h.xx
  have far : ∀ q ob, q ≠ g → W.heap[q]? = some ob → (W.setCell ⟨g, i * 4 + 1, none⟩ (.int .i64 u)).heap[q]? = some ob := fun q ob hq hw => (Below.heap_setCell W _ _ q hq).trans hw
  have hst := hI.stored1 hm i hi u
  exact ⟨KeepsOthers.setCell _ _ _, ⟨by rw [World.size_setCell]; exact Nat.le_refl _, fun k ob hk _ hn => far _ _ (fun e => hn (.inr ⟨by omega, by subst e; rw [hcur] at hk; cases hk; exact ⟨_, _, rfl⟩⟩)) hk⟩, ⟨⟨_, far _ _ (by omega) hv, hst⟩, h.bel.setCell (p := ⟨g, i * 4 + 1, none⟩) (show w.heap.size ≤ g by omega) _, h.xx, by rw [World.size_setCell]; exact h.bb⟩⟩
section
variable {ops : Array Oper} {o : Oper} {rest : List Oper} {a : Act} {Q : Exit → Act → World → Prop} {w : World} {F : Fence} {n : Nat}
theorem wpListIn_append_D (hgd : o.guard = none) (s x : Operand) (ho : o.op = .call { callee := .builtin .append, args := #[s, x], argTypes := #[24, 24] })
    (B : Nat) (v : Value) (l : List Dt) (hs : a.eval s = v) (hown : DsO w B v l) (g : Nat) (m : Dt) (hx : a.eval x = .slice (some ⟨g, 0, none⟩) 1 1) (tb : TypeId) (fr : Nat × Nat)
    (hc : w.heap[g]? = some (.cells #[.int .i64 m.1, .int .i64 m.2.1, .int .i64 m.2.2.1, .int .i64 m.2.2.2] tb fr)) (hlen : l.length ≤ 1200000) (hB : B ≤ w.heap.size)
    (h : ∀ v' w', DsO w' B v' (l ++ [m]) → Below B w w' → w.grownBy w' v.ownBlock → wpListIn F n Try.prog ops Q rest (a.put o.dst v') w') : wpListIn F n Try.prog ops Q (o :: rest) a w := by
  obtain ⟨i0, hi, hz0, hz1, hz2⟩ := info_parts info_D
  refine wpListIn_append_own w hgd s x 24 ho B 52 i0 (.agg #[.int .i64 0, .int .i64 0, .int .i64 0, .int .i64 0]) 4 32 Try.underlying24 hi hz0 hz1 hz2 rfl (by decide) v l.length _ hs hown ⟨g, 0, none⟩ 1 1 (encD m) hx rfl ?_ ?_ (by unfold maxLen; omega) (by omega) hB ?_
  · exact fun j u hj => World.news_of_block hc j u (by simpa [encD] using hj)
  · intro u hu; exact encLD_cells [m] u (by rw [encLD_one]; exact hu)
  · intro v' w' h1 h2 _
    refine h v' w' ?_ ((Below.refl B w).grown h2 hB fun k hk => (World.ownsRow.lt hown k hk).1) h2
    unfold DsO
    rw [encLD_app, encLD_one, List.length_append]
    exact h1
end
theorem run_eq_D (x y : Dt) (w : World) : (binOp .eql 52 (.agg (encD x).toArray) (.agg (encD y).toArray)).run Try.prog w = .ok (.bool (decide (x = y))) w := by
  obtain ⟨x0, x1, x2, x3⟩ := x
  obtain ⟨y0, y1, y2, y3⟩ := y
  dsimp only [encD]
  go_simp
  by_cases h0 : x0 = y0 <;> by_cases h1 : x1 = y1 <;> by_cases h2 : x2 = y2 <;> by_cases h3 : x3 = y3 <;> simp [h0, h1, h2, h3]
theorem run_neq_D (x y : Dt) (w : World) : (binOp .neq 52 (.agg (encD x).toArray) (.agg (encD y).toArray)).run Try.prog w = .ok (.bool (!decide (x = y))) w := by
  obtain ⟨x0, x1, x2, x3⟩ := x
  obtain ⟨y0, y1, y2, y3⟩ := y
  dsimp only [encD]
  go_simp
  by_cases h0 : x0 = y0 <;> by_cases h1 : x1 = y1 <;> by_cases h2 : x2 = y2 <;> by_cases h3 : x3 = y3 <;> simp [h0, h1, h2, h3]
/-- A store into the round's own box. -/
theorem LaR.boxed {w W : World} {Y Bx i : Nat} {xs : List Dt} {v u : Value} {cs : Array Value} (h : LaR w W Y xs) (hv : W.heap[w.heap.size]? = some (.cells #[v] 24 (0, 0))) (hI : DsO W Y v xs) (hne : some Bx ≠ v.ownBlock) (hY : Y ≤ Bx) (hX : W.heap[Bx]? = some (.cells cs 52 (0, 0))) :
    KeepsOthers W (W.setCell ⟨Bx, i, none⟩ u) ∧ KpO (ownV w Y) W (W.setCell ⟨Bx, i, none⟩ u) ∧ LaR w (W.setCell ⟨Bx, i, none⟩ u) Y xs ∧ (W.setCell ⟨Bx, i, none⟩ u).heap[w.heap.size]? = some (.cells #[v] 24 (0, 0)) ∧ DsO (W.setCell ⟨Bx, i, none⟩ u) Y v xs ∧ (W.setCell ⟨Bx, i, none⟩ u).heap[Bx]? = some (.cells (cs.setIfInBounds i u) 52 (0, 0)) := by
  have hxx := h.xx
  have far : ∀ q ob, q ≠ Bx → W.heap[q]? = some ob → (W.setCell ⟨Bx, i, none⟩ u).heap[q]? = some ob := fun q ob hq hw => (Below.heap_setCell W ⟨Bx, i, none⟩ u q hq).trans hw
  refine ⟨KeepsOthers.setCell _ _ _, ⟨by rw [World.size_setCell]; exact Nat.le_refl _, fun k ob hk _ hn => far _ _ (fun e => hn (.inr ⟨by omega, by subst e; rw [hX] at hk; cases hk; exact ⟨_, _, rfl⟩⟩)) hk⟩, ⟨⟨v, far _ _ (by omega) hv, hI.setFar hne⟩, h.bel.setCell (p := ⟨Bx, i, none⟩) (show w.heap.size ≤ Bx by omega) _, h.xx, by rw [World.size_setCell]; exact h.bb⟩, far _ _ (by omega) hv, hI.setFar hne, cells_setD hX⟩
section
variable {P : Program} {Q : Exit → Act → World → Prop} {lp N : Nat}
open Go.Sort in
/-- A region that draws, in a round: n quiet operations, then the rest one behind the other. -/
theorem wpIn_round_grow_tail {id : Nat} {a : Act} {w : World} {l : List Oper} (n : Nat) (hm : P.follows .mixedOrders = true) (hd : noDefer l.toArray = true) (hq : ¬ LetsOut Q) (hB : Region.lexTailB .any l.toArray n = true)
    (h : wpQuiet P l.toArray (fun w' => ∃ p : Regrown, w' = grow (redrawn w p.d) p.os) (fun a' => ∀ w', (∃ p : Regrown, w' = grow (redrawn w p.d) p.os) → wpList P l.toArray Q (l.drop n) a' w') (l.take n) a) : (Code.region id l.toArray true).wpIn (Fence.wide.inRound lp) N P Q a w := by
  simp only [Region.lexTailB, Bool.and_eq_true, decide_eq_true_eq] at hB
  obtain ⟨⟨⟨⟨hsel, hn⟩, hs⟩, hc⟩, hlex⟩ := hB
  have hn' : n < l.length := by simpa using hn
  have htl : (l.take n).length = n := by simp; omega
  have hdl : (l.drop n).length = l.toArray.size - n := by simp
  have inv0 : HeadInv .any l.toArray n (Array.replicate l.toArray.size false) :=
    ⟨by simp, fun j oj _ hl => (by rw [getD_replicate_false] at hl; cases hl), fun t _ ht => getD_in (by simpa using ht) (getD_replicate_false _ _)⟩
  have H := headQ_lex (md := .any) (C := fun w' => ∃ p : Regrown, w' = grow (redrawn w p.d) p.os) (g := l.toArray.size - n) hsel hs hc hn (l.take n) 0 _ a (fun j hj => by
    have hj' : j < n := by rw [htl] at hj; exact hj
    simp [hj']) (by simpa using htl) inv0 (by rw [htl]; exact hlex) h
  refine wpIn_region_any hm (wpAny_round hd hq _ _ _ _ ?_)
  have := wpAny_of_headQ (R := Q) (g := l.toArray.size - n) (fun done a' w' hw' hL => by
    have := wpAny_of_seq (md := .any) (Q' := Q) (l.drop n) n done a' w' (fun j => by simp [List.getElem?_drop]) (by rw [hdl]; exact hL.1) (hL.2 w' hw')
    rwa [hdl] at this) _ _ _ _ ⟨⟨w.drawn + 1, #[]⟩, (grow_empty _).symm⟩ H
  rw [htl, show n + (l.toArray.size - n) = l.toArray.size by omega] at this
  exact this
end
/-- The marks of ranges over functions that are done. -/
def mk (D : Nat) : Deferred := { target := .collected D, args := #[] }
structure Marks (B E : Nat) (Ds : List Nat) (W : World) : Prop where
  nd : Ds.Nodup
  at' : ∀ D ∈ Ds, B ≤ D ∧ D < E ∧ W.heap[D]? = some (.deferred (some []))
theorem Marks.keeps {B E : Nat} {Ds : List Nat} {W W' : World} (h : Marks B E Ds W) (hk : KeepsOthers W W') : Marks B E Ds W' :=
  ⟨h.nd, fun D hD => ⟨(h.at' D hD).1, (h.at' D hD).2.1, hk.same _ _ (h.at' D hD).2.2 rfl⟩⟩
theorem Marks.cons {B E E' D : Nat} {Ds : List Nat} {W : World} (h : Marks B E Ds W) (hE : E ≤ D) (hB : B ≤ E) (hE' : D < E') (hD : W.heap[D]? = some (.deferred (some []))) : Marks B E' (D :: Ds) W :=
  ⟨List.nodup_cons.2 ⟨fun hm => by have := (h.at' D hm).2.1; omega, h.nd⟩, fun D' hm => by
    rcases List.mem_cons.1 hm with rfl | hm
    · exact ⟨by omega, hE', hD⟩
    · have := h.at' D' hm; exact ⟨this.1, by omega, this.2.2⟩⟩
theorem KeepsOthers.of_below {W W' : World} (h : Below W.heap.size W W') : KeepsOthers W W' := keeps_below h
theorem leaves_marks {F : Fence} {n : Nat} {P : Program} {fn : Func} {tmps : Array Value} {R : Ending → World → Prop} {B E : Nat} : ∀ (Ds : List Nat) (W : World), Marks B E Ds W →
    (∀ W', Below B W W' → (∀ (k : Nat) (o : Obj), W.heap[k]? = some o → o.isCells = true → W'.heap[k]? = some o) → ∃ v, (results fn tmps).run P W' = .ok v W' ∧ R (.returned v) W') → LeavesInM F n P fn tmps R (Ds.map mk) .returning W
  | [], W, _, h => h W (Below.refl _ _) (fun _ _ h _ => h)
  | D :: Ds, W, hM, h => by
    obtain ⟨hB, hE, hD⟩ := hM.at' D (List.mem_cons_self ..)
    have hlt := (Array.getElem?_eq_some_iff.1 hD).1
    refine ⟨by simp, .inl ⟨D, _, rfl, run_takeDeferred hD, ?_⟩⟩
    have hb : Below B W (W.putObj D (.deferred none)) := ⟨rfl, rfl, rfl, by simp, fun k hk => World.putObj_heap_other (by omega)⟩
    refine leaves_marks (B := B) (E := E) Ds _ ⟨(List.nodup_cons.1 hM.nd).2, fun D' hm => ?_⟩ (fun W' hb' hk' => h W' (hb.trans hb') fun k o hk hc => hk' k o ((World.putObj_heap_other (fun e => by subst e; rw [hD] at hk; cases hk; cases hc)).trans hk) hc)
    have := hM.at' D' (List.mem_cons_of_mem _ hm)
    exact ⟨this.1, this.2.1, (World.putObj_heap_other (fun e => by subst e; exact (List.nodup_cons.1 hM.nd).1 hm)).trans this.2.2⟩
end Go.Proofs.Ythnhnmmabjmjgaa
