/- Slices of headers of writes that a call builds (layer 4). -/
import Derived.Test.YtbimmahlcceadaaDskOwn
import Derived.ArgAppend
namespace Go.Proofs.Ytbimmahlcceadaa
open Go.ChangeShapes Go.WideShapes Go.ChangeAt Go.RowKit
def encP (m : Wr) : List Value := [.int .i64 m.1, slV m.2]
def encLP (l : List Wr) : List Value := l.flatMap encP
theorem encLP_len (l : List Wr) : (encLP l).length = l.length * 2 := by
  induction l with
  | nil => rfl
  | cons m l ih => simp only [encLP, List.flatMap_cons, List.length_append, List.length_cons] at *; rw [ih]; simp [encP]; omega
theorem nW_succ (m : Wr) (l : List Wr) (i : Nat) : nW (m :: l) (i + 1) = nW l i := by simp [nW]
theorem encLP_get (l : List Wr) : ∀ i, i < l.length → (encLP l)[i * 2]? = some (.int .i64 (nW l i).1) ∧ (encLP l)[i * 2 + 1]? = some (slV (nW l i).2) := by
  induction l with
  | nil => intro i hi; simp at hi
  | cons m l ih =>
    intro i hi
    cases i with
    | zero => exact ⟨rfl, rfl⟩
    | succ i =>
      have h := ih i (by simpa using hi)
      have e : ∀ q, (encLP (m :: l))[q + 2]? = (encLP l)[q]? := fun q => by simp only [encLP, List.flatMap_cons, encP]; rfl
      rw [nW_succ, show (i + 1) * 2 = i * 2 + 2 by omega, e, show i * 2 + 2 + 1 = i * 2 + 1 + 2 by omega, e]
      exact h
theorem encLP_app (l k : List Wr) : encLP (l ++ k) = encLP l ++ encLP k := by simp [encLP]
theorem encLP_one (m : Wr) : encLP [m] = encP m := by simp [encLP]
theorem encLP_cells (l : List Wr) : ∀ u ∈ encLP l, u.oneCell' = true := by
  intro u hu
  obtain ⟨m, _, hm⟩ := List.mem_flatMap.1 hu
  simp [encP] at hm
  rcases hm with rfl | rfl <;> rfl
/-- Headers of writes, where they lie. -/
structure PenH (w : World) (a : Option Addr) (b off n : Nat) (P : List Wr) : Prop where
  len : P.length = n
  adr : 0 < n → a = some ⟨b, off, none⟩
  old : 0 < n → b < w.heap.size
  at_ : ∀ i, i < n → w.cell? ⟨b, off + i * 2, none⟩ = some (.int .i64 (nW P i).1)
  cel : ∀ i, i < n → w.cell? ⟨b, off + i * 2 + 1, none⟩ = some (slV (nW P i).2)
theorem Pens.hd {w : World} {a : Option Addr} {b off n : Nat} {P : List Wr} (h : Pens w a b off n P) : PenH w a b off n P := ⟨h.len, h.adr, h.old, h.at_, h.cel⟩
theorem PenH.pens {w : World} {a : Option Addr} {b off n : Nat} {P : List Wr} (h : PenH w a b off n P) (hr : ∀ i, i < n → SlR w (nW P i).2) : Pens w a b off n P := ⟨h.len, h.adr, h.old, h.at_, h.cel, hr⟩
theorem PenH.below {w w' : World} {a : Option Addr} {b off n : Nat} {P : List Wr} (h : PenH w a b off n P) {B : Nat} (hb : Below B w w') (hB : w.heap.size ≤ B) : PenH w' a b off n P :=
  ⟨h.len, h.adr, fun hn => Nat.lt_of_lt_of_le (h.old hn) hb.size, fun i hi => (hb.cell (p := ⟨b, off + i * 2, none⟩) (Nat.lt_of_lt_of_le (h.old (by omega)) hB)).trans (h.at_ i hi), fun i hi => (hb.cell (p := ⟨b, off + i * 2 + 1, none⟩) (Nat.lt_of_lt_of_le (h.old (by omega)) hB)).trans (h.cel i hi)⟩
theorem PenH.encs {w : World} {a : Option Addr} {b off n : Nat} {P : List Wr} (h : PenH w a b off n P) : ∀ j u, (encLP P)[j]? = some u → w.cell? ⟨b, off + j, none⟩ = some u := by
  intro j u hu
  have hj := (List.getElem?_eq_some_iff.1 hu).1
  rw [encLP_len, h.len] at hj
  obtain ⟨e0, e1⟩ := encLP_get P (j / 2) (by rw [h.len]; omega)
  have hm : j % 2 = 0 ∨ j % 2 = 1 := by omega
  rcases hm with hm | hm
  · have ej : j / 2 * 2 = j := by omega
    have c0 := h.at_ (j / 2) (by omega)
    rw [ej] at c0; rw [ej] at e0; rw [c0, ← e0]; exact hu
  · have ej : j / 2 * 2 + 1 = j := by omega
    have c1 := h.cel (j / 2) (by omega)
    rw [Nat.add_assoc, ej] at c1; rw [ej] at e1; rw [c1, ← e1]; exact hu
theorem nW_app_l {P Q : List Wr} {i : Nat} (h : i < P.length) : nW (P ++ Q) i = nW P i := by unfold nW; rw [List.getD_eq_getElem?_getD, List.getD_eq_getElem?_getD, List.getElem?_append_left h]
theorem nW_app_r {P : List Wr} {x : Wr} : nW (P ++ [x]) P.length = x := by simp [nW, List.getD_eq_getElem?_getD]
theorem info_pn : (Try.prog.info? 54).map (fun i => (i.zero, i.size, i.bytes)) = some (some (.agg #[.int .i64 0, .slice none 0 0]), 2, 32) := by kernel_rfl
/-- A slice of writes of a call's own. -/
def PenO (w : World) (B : Nat) (v : Value) (l : List Wr) : Prop := w.ownsRow B 54 2 v l.length (encLP l)
theorem PenO.nil (w : World) (B : Nat) : PenO w B (.slice none 0 0) [] := World.ownsRow_nil _ _ _ _
theorem PenO.empty (w : World) (fr : Nat × Nat := (0, 0)) (hf : fr = (0, 0) := by rfl) : PenO (w.alloc (.cells #[] 54 fr)) w.heap.size (.slice (some ⟨w.heap.size, 0, none⟩) 0 0) [] := by
  subst hf
  exact ⟨rfl, .inr ⟨w.heap.size, 0, #[], rfl, Nat.le_refl _, heap_alloc_new w _, Nat.le_refl _, by simp [maxLen], rfl, rfl⟩⟩
theorem PenO.alloc {w : World} {B : Nat} {v : Value} {l : List Wr} (h : PenO w B v l) (o : Obj) : PenO (w.alloc o) B v l := World.ownsRow.alloc h o
theorem PenO.mono {w : World} {B B' : Nat} {v : Value} {l : List Wr} (h : PenO w B v l) (hB : B' ≤ B) : PenO w B' v l := by
  refine ⟨h.1, ?_⟩
  rcases h.2 with h0 | ⟨g, cap, cur, h1, h2, h3⟩
  · exact .inl h0
  · exact .inr ⟨g, cap, cur, h1, Nat.le_trans hB h2, h3⟩
theorem PenO.below {w w' : World} {B B' : Nat} {v : Value} {l : List Wr} (h : PenO w B v l) (hb : Below B' w w') (hB : w.heap.size ≤ B') : PenO w' B v l := by
  refine ⟨h.1, ?_⟩
  rcases h.2 with h0 | ⟨g, cap, cur, h1, h2, h3, h4⟩
  · exact .inl h0
  · refine .inr ⟨g, cap, cur, h1, h2, ?_, h4⟩
    have hlt := (Array.getElem?_eq_some_iff.1 h3).1
    exact (hb.block g (by omega)).trans h3
theorem PenO.s {w : World} {B : Nat} {v : Value} {l : List Wr} (h : PenO w B v l) : ∃ a b cap, v = .slice a l.length cap ∧ PenH w a b 0 l.length l ∧ (a = none → cap = 0) ∧ l.length ≤ cap ∧ cap ≤ maxLen ∧ (0 < l.length → B ≤ b) := by
  rcases h.2 with ⟨h0, hn⟩ | ⟨g, cap, cur, h1, h2, h3, h4, h5, h6, h7⟩
  · exact ⟨none, 0, 0, by rw [hn]; exact h0, ⟨rfl, fun h => by omega, fun h => by omega, fun i hi => by omega, fun i hi => by omega⟩, fun _ => rfl, by omega, by simp [maxLen], fun h => by omega⟩
  · refine ⟨some ⟨g, 0, none⟩, g, cap, h1, ⟨rfl, fun _ => rfl, fun _ => (Array.getElem?_eq_some_iff.1 h3).1, fun i hi => ?_, fun i hi => ?_⟩, fun h => (by cases h), h4, h5, fun _ => h2⟩
    · subst h1
      obtain ⟨e0, e1⟩ := encLP_get l i hi
      have c0 := World.ownsRow.cellAt h (i * 2) (by omega)
      rw [Nat.zero_add]
      exact c0.trans e0
    · subst h1
      obtain ⟨e0, e1⟩ := encLP_get l i hi
      have c1 := World.ownsRow.cellAt h (i * 2 + 1) (by omega)
      rw [Nat.zero_add]
      exact c1.trans e1
section
variable {ops : Array Oper} {o : Oper} {rest : List Oper} {a : Act} {Q : Exit → Act → World → Prop} {w : World}
theorem wp_append_p {K : Act → World → Prop} (s x : Operand) (ho : o.op = .call { callee := .builtin .append, args := #[s, x], argTypes := #[23, 23] })
    (B : Nat) (v : Value) (l : List Wr) (hs : a.eval s = v) (hown : PenO w B v l) (g : Nat) (m : Wr) (hx : a.eval x = .slice (some ⟨g, 0, none⟩) 1 1) (tb : TypeId) (fr : Nat × Nat)
    (hc : w.heap[g]? = some (.cells #[.int .i64 m.1, slV m.2] tb fr)) (hlen : l.length ≤ 1000000) (hB : B ≤ w.heap.size)
    (h : ∀ v' w', PenO w' B v' (l ++ [m]) → Below B w w' → w.grownBy w' v.ownBlock → K (a.put o.dst v') w') : o.wp Try.prog a w K Q := by
  obtain ⟨i0, hi, hz0, hz1, hz2⟩ := info_partsH info_pn
  refine wp_append_own w s x 23 ho B 54 i0 (.agg #[.int .i64 0, .slice none 0 0]) 2 32 Try.underlying23 hi hz0 hz1 hz2 rfl (by decide) v l.length _ hs hown ⟨g, 0, none⟩ 1 1 (encP m) hx rfl ?_ ?_ (by unfold maxLen; omega) (by omega) hB ?_
  · exact fun j u hj => World.news_of_block hc j u (by simpa [encP] using hj)
  · intro u hu; exact encLP_cells [m] u (by rw [encLP_one]; exact hu)
  · intro v' w' h1 h2 _
    refine h v' w' ?_ ((Below.refl B w).grown h2 hB fun k hk => (World.ownsRow.lt hown k hk).1) h2
    unfold PenO
    rw [encLP_app, encLP_one, List.length_append]
    exact h1
theorem wp_append_ps {K : Act → World → Prop} (s x : Operand) (ho : o.op = .call { callee := .builtin .append, args := #[s, x], argTypes := #[23, 23] })
    (B : Nat) (v : Value) (l : List Wr) (hs : a.eval s = v) (hown : PenO w B v l) (ax : Option Addr) (b off n c : Nat) (l2 : List Wr) (hx : a.eval x = .slice ax n c) (hr : PenH w ax b off n l2) (hnc : ax = none → c = 0)
    (hlen : l.length + n ≤ 1000000) (hB : B ≤ w.heap.size)
    (h : ∀ v' w', PenO w' B v' (l ++ l2) → Below B w w' → w.grownBy w' v.ownBlock → K (a.put o.dst v') w') : o.wp Try.prog a w K Q := by
  obtain ⟨i0, hi, hz0, hz1, hz2⟩ := info_partsH info_pn
  cases ax with
  | none =>
    obtain rfl : c = 0 := hnc rfl
    obtain rfl : n = 0 := by
      rcases Nat.eq_zero_or_pos n with h0 | h0
      · exact h0
      · have := hr.adr h0; cases this
    obtain rfl : l2 = [] := List.eq_nil_of_length_eq_zero hr.len
    have hrun := run_append_owned_none (P := Try.prog) (w := w) B 23 o.type 54 i0 2 Try.underlying23 hi v l.length _ hown
    unfold Oper.wp
    simp [execOp, ho, resolve, invoke, builtin, hs, hx, hrun, Result.andThen]
    exact h v w (by rw [List.append_nil]; exact hown) (Below.refl _ _) ⟨rfl, rfl, rfl, Nat.le_refl _, fun _ _ _ => rfl⟩
  | some ad =>
    refine wp_append_own w s x 23 ho B 54 i0 (.agg #[.int .i64 0, .slice none 0 0]) 2 32 Try.underlying23 hi hz0 hz1 hz2 rfl (by decide) v l.length _ hs hown ad n c (encLP l2) hx (by rw [encLP_len, hr.len]) ?_ (encLP_cells l2) (by unfold maxLen; omega) (by omega) hB ?_
    · intro j u hj
      have hn : 0 < n := by
        have := (List.getElem?_eq_some_iff.1 hj).1
        rw [encLP_len, hr.len] at this; omega
      have he := hr.adr hn
      cases he
      rw [Go.WideShapes.add_plain]
      exact hr.encs j u hj
    · intro v' w' h1 h2 _
      refine h v' w' ?_ ((Below.refl B w).grown h2 hB fun k hk => (World.ownsRow.lt hown k hk).1) h2
      unfold PenO
      rw [encLP_app, List.length_append, hr.len]
      exact h1
theorem wpList_append_p (hgd : o.guard = none) (s x : Operand) (ho : o.op = .call { callee := .builtin .append, args := #[s, x], argTypes := #[23, 23] })
    (B : Nat) (v : Value) (l : List Wr) (hs : a.eval s = v) (hown : PenO w B v l) (g : Nat) (m : Wr) (hx : a.eval x = .slice (some ⟨g, 0, none⟩) 1 1) (tb : TypeId) (fr : Nat × Nat)
    (hc : w.heap[g]? = some (.cells #[.int .i64 m.1, slV m.2] tb fr)) (hlen : l.length ≤ 1000000) (hB : B ≤ w.heap.size)
    (h : ∀ v' w', PenO w' B v' (l ++ [m]) → Below B w w' → w.grownBy w' v.ownBlock → wpList Try.prog ops Q rest (a.put o.dst v') w') : wpList Try.prog ops Q (o :: rest) a w :=
  wpList_plain hgd fun _ hK => wp_append_p s x ho B v l hs hown g m hx tb fr hc hlen hB fun v' w' h1 h2 h3 => hK _ _ (h v' w' h1 h2 h3)
theorem wpList_append_ps (hgd : o.guard = none) (s x : Operand) (ho : o.op = .call { callee := .builtin .append, args := #[s, x], argTypes := #[23, 23] })
    (B : Nat) (v : Value) (l : List Wr) (hs : a.eval s = v) (hown : PenO w B v l) (ax : Option Addr) (b off n c : Nat) (l2 : List Wr) (hx : a.eval x = .slice ax n c) (hr : PenH w ax b off n l2) (hnc : ax = none → c = 0)
    (hlen : l.length + n ≤ 1000000) (hB : B ≤ w.heap.size)
    (h : ∀ v' w', PenO w' B v' (l ++ l2) → Below B w w' → w.grownBy w' v.ownBlock → wpList Try.prog ops Q rest (a.put o.dst v') w') : wpList Try.prog ops Q (o :: rest) a w :=
  wpList_plain hgd fun _ hK => wp_append_ps s x ho B v l hs hown ax b off n c l2 hx hr hnc hlen hB fun v' w' h1 h2 h3 => hK _ _ (h v' w' h1 h2 h3)
/-- 'append(l[:n:n], x)': always into a new block. -/
theorem wpList_append_pfull (hgd : o.guard = none) (s x : Operand) (ho : o.op = .call { callee := .builtin .append, args := #[s, x], argTypes := #[23, 23] })
    (ao : Option Addr) (b off n : Nat) (P : List Wr) (hs : a.eval s = .slice ao n n) (hr : PenH w ao b off n P) (g : Nat) (m : Wr) (hx : a.eval x = .slice (some ⟨g, 0, none⟩) 1 1) (tb : TypeId) (fr : Nat × Nat)
    (hc : w.heap[g]? = some (.cells #[.int .i64 m.1, slV m.2] tb fr)) (hlen : n ≤ 1000000)
    (h : ∀ v' w', PenO w' w.heap.size v' (P ++ [m]) → Below w.heap.size w w' → wpList Try.prog ops Q rest (a.put o.dst v') w') : wpList Try.prog ops Q (o :: rest) a w := by
  obtain ⟨i0, hi, hz0, hz1, hz2⟩ := info_partsH info_pn
  refine wpList_append_grows w hgd s x 23 ho 54 i0 (.agg #[.int .i64 0, .slice none 0 0]) 2 32 Try.underlying23 hi hz0 hz1 hz2 rfl (by decide) ao n n (encLP P) hs ?_ (by rw [encLP_len, hr.len]) ?_ ⟨g, 0, none⟩ 1 1 (encP m) hx rfl ?_ ?_ (by omega) (by unfold maxLen; omega) (by omega) ?_
  · intro h0
    have : n = 0 := by
      rcases Nat.eq_zero_or_pos n with e | e
      · exact e
      · have := hr.adr e; rw [h0] at this; cases this
    exact ⟨this, this⟩
  · intro ad h0 j u hj
    have hn : 0 < n := by
      have := (List.getElem?_eq_some_iff.1 hj).1
      rw [encLP_len, hr.len] at this; omega
    have he := hr.adr hn
    rw [h0] at he
    cases he
    rw [Go.WideShapes.add_plain]
    exact hr.encs j u hj
  · exact fun j u hj => World.news_of_block hc j u (by simpa [encP] using hj)
  · intro u hu; exact encLP_cells [m] u (by rw [encLP_one]; exact hu)
  · intro v' w' h1 h2
    refine h v' w' ?_ ((Below.refl w.heap.size w).grown h2 (Nat.le_refl _) fun k hk => (by cases hk))
    unfold PenO
    rw [encLP_app, encLP_one, List.length_append, hr.len]
    exact h1
end
end Go.Proofs.Ytbimmahlcceadaa
