/- Slices of headers of sectors that a call builds (layer 4). Made by tools/mkownsl.py from XOwnB and XOwnBRow. -/
import Derived.Test.YtbimmahlcceadaaDsk
import Derived.OwnWalk
import Derived.Deep.AppendLies
import Derived.Laws.AppendOwnNone
import Derived.Laws.OwnMore
import Derived.OpenShut
namespace Go.Proofs.Ytbimmahlcceadaa
open Go.ChangeShapes Go.WideShapes Go.ChangeAt Go.RowKit
/-- A slice of numbers: what it holds, and where. -/
structure Hdr (w : World) (a : Option Addr) (b off n : Nat) (l : List Sl) : Prop where
  len : l.length = n
  adr : 0 < n → a = some ⟨b, off, none⟩
  old : 0 < n → b < w.heap.size
  cel : ∀ i, i < n → w.cell? ⟨b, off + i, none⟩ = some (slV (nS l i))

theorem Hdr.below {w w' : World} {a : Option Addr} {b off n : Nat} {l : List Sl} (h : Hdr w a b off n l) {B : Nat} (hb : Below B w w') (hB : w.heap.size ≤ B) : Hdr w' a b off n l :=
  ⟨h.len, h.adr, fun hn => Nat.lt_of_lt_of_le (h.old hn) hb.size, fun i hi => (hb.cell (p := ⟨b, off + i, none⟩) (Nat.lt_of_lt_of_le (h.old (by omega)) hB)).trans (h.cel i hi)⟩
theorem Hdr.sub {w : World} {a : Option Addr} {b off n : Nat} {l : List Sl} (h : Hdr w a b off n l) {i s : Nat} (hi : i + s ≤ n) : Hdr w (some ⟨b, off + i, none⟩) b (off + i) s ((l.drop i).take s) :=
  ⟨by have := h.len; simp; omega, fun _ => rfl, fun hs => h.old (by omega), fun j hj => by
    have e := h.cel (i + j) (by omega)
    rw [Nat.add_assoc, e]
    simp [nS, List.getD_eq_getElem?_getD, List.getElem?_drop, hj]⟩

theorem info_hd : (Try.prog.info? 35).map (fun i => (i.zero, i.size, i.bytes)) = some (some (.slice none 0 0), 1, 24) := by kernel_rfl
theorem info_partsH {v : Value} {a b : Nat} {t : TypeId} (h : (Try.prog.info? t).map (fun i => (i.zero, i.size, i.bytes)) = some (some v, a, b)) : ∃ i, Try.prog.info? t = some i ∧ i.zero = some v ∧ i.size = a ∧ i.bytes = b := by
  cases hq : Try.prog.info? t with
  | none => rw [hq] at h; cases h
  | some i =>
    rw [hq] at h
    simp at h
    exact ⟨i, rfl, h.1, h.2.1, h.2.2⟩
/-- A slice that a call has built holds a list of numbers. -/
def Hds (w : World) (B : Nat) (v : Value) (l : List Sl) : Prop := w.ownsRow B 35 1 v l.length (l.map slV)
theorem Hds.nil (w : World) (B : Nat) : Hds w B (.slice none 0 0) [] := World.ownsRow_nil _ _ _ _
theorem Hds.alloc {w : World} {B : Nat} {v : Value} {l : List Sl} (h : Hds w B v l) (o : Obj) : Hds (w.alloc o) B v l := World.ownsRow.alloc h o
theorem Hds.mono {w : World} {B B' : Nat} {v : Value} {l : List Sl} (h : Hds w B v l) (hB : B' ≤ B) : Hds w B' v l := by
  refine ⟨h.1, ?_⟩
  rcases h.2 with h0 | ⟨g, cap, cur, h1, h2, h3⟩
  · exact .inl h0
  · exact .inr ⟨g, cap, cur, h1, Nat.le_trans hB h2, h3⟩
theorem Hds.below {w w' : World} {B B' : Nat} {v : Value} {l : List Sl} (h : Hds w B v l) (hb : Below B' w w') (hB : w.heap.size ≤ B') : Hds w' B v l := by
  refine ⟨h.1, ?_⟩
  rcases h.2 with h0 | ⟨g, cap, cur, h1, h2, h3, h4⟩
  · exact .inl h0
  · refine .inr ⟨g, cap, cur, h1, h2, ?_, h4⟩
    have hlt := (Array.getElem?_eq_some_iff.1 h3).1
    exact (hb.block g (by omega)).trans h3
theorem Hds.row {w : World} {B : Nat} {v : Value} {l : List Sl} (h : Hds w B v l) : ∃ a b cap, v = .slice a l.length cap ∧ Hdr w a b 0 l.length l ∧ l.length ≤ cap ∧ cap ≤ maxLen := by
  rcases h.2 with ⟨h0, hn⟩ | ⟨g, cap, cur, h1, h2, h3, h4, h5, h6, h7⟩
  · exact ⟨none, 0, 0, by rw [hn]; exact h0, ⟨rfl, fun h => by omega, fun h => by omega, fun i hi => by omega⟩, by omega, by simp [maxLen]⟩
  · refine ⟨some ⟨g, 0, none⟩, g, cap, h1, ⟨rfl, fun _ => rfl, fun _ => (Array.getElem?_eq_some_iff.1 h3).1, fun i hi => ?_⟩, h4, h5⟩
    subst h1
    have := World.ownsRow.cellAt h i (by omega)
    rw [Nat.zero_add, this]
    simp [nS, List.getD_eq_getElem?_getD, hi]
theorem Hds.grown {w' : World} {B : Nat} {v' : Value} {l : List Sl} {x : Sl} (hw : w'.ownsRow B 35 1 v' (l.length + 1) (l.map slV ++ [slV x])) : Hds w' B v' (l ++ [x]) := by
  unfold Hds; simpa using hw


variable {ops : Array Oper} {o : Oper} {a : Act} {Q : Exit → Act → World → Prop} {w : World}

/-- 'append(v, y)', where v is the call's own. -/
theorem wp_append_h {K : Act → World → Prop} (s x : Operand) (ho : o.op = .call { callee := .builtin .append, args := #[s, x], argTypes := #[22, 22] })
    (B : Nat) (v : Value) (l : List Sl) (hs : a.eval s = v) (hown : Hds w B v l) (g : Nat) (y : Sl) (hx : a.eval x = .slice (some ⟨g, 0, none⟩) 1 1) (tb : TypeId) (fr : Nat × Nat)
    (hc : w.heap[g]? = some (.cells #[slV y] tb fr)) (hlen : l.length ≤ 1000000) (hB : B ≤ w.heap.size)
    (h : ∀ v' w', Hds w' B v' (l ++ [y]) → Below B w w' → w.grownBy w' v.ownBlock → K (a.put o.dst v') w') : o.wp Try.prog a w K Q := by
  obtain ⟨i0, hi, hz0, hz1, hz2⟩ := info_partsH info_hd
  refine wp_append_own w s x 22 ho B 35 i0 (.slice none 0 0) 1 24 Try.underlying22 hi hz0 hz1 hz2 rfl (by decide) v l.length _ hs hown ⟨g, 0, none⟩ 1 1 [slV y] hx rfl ?_ ?_ (by unfold maxLen; omega) (by omega) hB ?_
  · exact fun j u hj => World.news_of_block hc j u (by simpa using hj)
  · intro u hu; simp at hu; subst hu; rfl
  · intro v' w' h1 h2 _
    exact h v' w' (Hds.grown h1) ((Below.refl B w).grown h2 hB fun k hk => (World.ownsRow.lt hown k hk).1) h2

theorem wpList_append_h {rest : List Oper} (hgd : o.guard = none) (s x : Operand) (ho : o.op = .call { callee := .builtin .append, args := #[s, x], argTypes := #[22, 22] })
    (B : Nat) (v : Value) (l : List Sl) (hs : a.eval s = v) (hown : Hds w B v l) (g : Nat) (y : Sl) (hx : a.eval x = .slice (some ⟨g, 0, none⟩) 1 1) (tb : TypeId) (fr : Nat × Nat)
    (hc : w.heap[g]? = some (.cells #[slV y] tb fr)) (hlen : l.length ≤ 1000000) (hB : B ≤ w.heap.size)
    (h : ∀ v' w', Hds w' B v' (l ++ [y]) → Below B w w' → w.grownBy w' v.ownBlock → wpList Try.prog ops Q rest (a.put o.dst v') w') : wpList Try.prog ops Q (o :: rest) a w :=
  wpList_plain hgd fun _ hK => wp_append_h s x ho B v l hs hown g y hx tb fr hc hlen hB fun v' w' h1 h2 h3 => hK _ _ (h v' w' h1 h2 h3)
/-- '[]int{}', laid by the call itself. -/
theorem Hds.empty (w : World) (fr : Nat × Nat := (0, 0)) (hf : fr = (0, 0) := by rfl) : Hds (w.alloc (.cells #[] 35 fr)) w.heap.size (.slice (some ⟨w.heap.size, 0, none⟩) 0 0) [] := by
  subst hf
  exact ⟨rfl, .inr ⟨w.heap.size, 0, #[], rfl, Nat.le_refl _, heap_alloc_new w _, Nat.le_refl _, by simp [maxLen], rfl, rfl⟩⟩

/-- 'append(v, x...)', where v is the call's own. -/
theorem wp_append_hrow {K : Act → World → Prop} (s x : Operand) (ho : o.op = .call { callee := .builtin .append, args := #[s, x], argTypes := #[22, 22] })
    (B : Nat) (v : Value) (l : List Sl) (hs : a.eval s = v) (hown : Hds w B v l) (ax : Option Addr) (b off n c : Nat) (l2 : List Sl) (hx : a.eval x = .slice ax n c) (hr : Hdr w ax b off n l2) (hnc : ax = none → c = 0)
    (hlen : l.length + n ≤ 1000000) (hB : B ≤ w.heap.size)
    (h : ∀ v' w', Hds w' B v' (l ++ l2) → Below B w w' → w.grownBy w' v.ownBlock → K (a.put o.dst v') w') : o.wp Try.prog a w K Q := by
  obtain ⟨i0, hi, hz0, hz1, hz2⟩ := info_partsH info_hd
  cases ax with
  | none =>
    obtain rfl : c = 0 := hnc rfl
    obtain rfl : n = 0 := by
      rcases Nat.eq_zero_or_pos n with h0 | h0
      · exact h0
      · have := hr.adr h0; cases this
    obtain rfl : l2 = [] := List.eq_nil_of_length_eq_zero hr.len
    have hrun := run_append_owned_none (P := Try.prog) (w := w) B 22 o.type 35 i0 1 Try.underlying22 hi v l.length _ hown
    unfold Oper.wp
    simp [execOp, ho, resolve, invoke, builtin, hs, hx, hrun, Result.andThen]
    exact h v w (by rw [List.append_nil]; exact hown) (Below.refl _ _) ⟨rfl, rfl, rfl, Nat.le_refl _, fun _ _ _ => rfl⟩
  | some ad =>
    refine wp_append_own w s x 22 ho B 35 i0 (.slice none 0 0) 1 24 Try.underlying22 hi hz0 hz1 hz2 rfl (by decide) v l.length _ hs hown ad n c (l2.map slV) hx (by rw [List.length_map, hr.len, Nat.mul_one]) ?_ ?_ (by unfold maxLen; omega) (by omega) hB ?_
    · intro j u hj
      have hjn : j < n := by
        have := (List.getElem?_eq_some_iff.1 hj).1
        rw [List.length_map, hr.len] at this
        exact this
      have he := hr.adr (by omega)
      cases he
      have hc := hr.cel j hjn
      rw [← Go.WideShapes.add_plain] at hc
      rw [hc]
      rw [List.getElem?_map] at hj
      simp only [nS, List.getD_eq_getElem?_getD]
      cases hq : l2[j]? with
      | none => rw [hq] at hj; simp at hj
      | some y => rw [hq] at hj; simpa using hj
    · intro u hu
      obtain ⟨y, _, rfl⟩ := List.mem_map.1 hu
      rfl
    · intro v' w' h1 h2 _
      refine h v' w' ?_ ((Below.refl B w).grown h2 hB fun k hk => (World.ownsRow.lt hown k hk).1) h2
      unfold Hds
      rw [List.length_append, hr.len, List.map_append]
      exact h1

theorem wpList_append_hrow {rest : List Oper} (hgd : o.guard = none) (s x : Operand) (ho : o.op = .call { callee := .builtin .append, args := #[s, x], argTypes := #[22, 22] })
    (B : Nat) (v : Value) (l : List Sl) (hs : a.eval s = v) (hown : Hds w B v l) (ax : Option Addr) (b off n c : Nat) (l2 : List Sl) (hx : a.eval x = .slice ax n c) (hr : Hdr w ax b off n l2) (hnc : ax = none → c = 0)
    (hlen : l.length + n ≤ 1000000) (hB : B ≤ w.heap.size)
    (h : ∀ v' w', Hds w' B v' (l ++ l2) → Below B w w' → w.grownBy w' v.ownBlock → wpList Try.prog ops Q rest (a.put o.dst v') w') : wpList Try.prog ops Q (o :: rest) a w :=
  wpList_plain hgd fun _ hK => wp_append_hrow s x ho B v l hs hown ax b off n c l2 hx hr hnc hlen hB fun v' w' h1 h2 h3 => hK _ _ (h v' w' h1 h2 h3)

end Go.Proofs.Ytbimmahlcceadaa
