/- Lists of packets of one's own, beside links (layer 6). -/
import Derived.Test.YthgbkdaimnejeaaNetFar2
import Derived.Test.YthgbkdaimnejeaaDag
import Derived.ArgAppend
namespace Go.Proofs.Ythgbkdaimnejeaa
open Go.ChangeShapes Go.WideShapes Go.ChangeAt Go.RowKit Go.Sort Go.Shelf

theorem Ks.keep {w w' : World} {a : Option Addr} {n b off : Nat} {l : List Kt} {own : Option Nat} (h : Ks w a n b off l) (hg : w.grownBy w' own) (hne : 0 < n → some b ≠ own) : Ks w' a n b off l := by
  refine ⟨h.1, fun hn => ⟨(h.2.1 hn).1, Nat.lt_of_lt_of_le (h.2.1 hn).2 hg.size⟩, fun i hi => ?_⟩
  have hb := hg.block b (h.2.1 (by omega)).2 (hne (by omega))
  have hc : ∀ o : Nat, w'.cell? ⟨b, o, none⟩ = w.cell? ⟨b, o, none⟩ := fun o => by
    unfold World.cell?
    simp only [hb]
  obtain ⟨c0, c1, c2⟩ := h.2.2 i hi
  exact ⟨(hc _).trans c0, (hc _).trans c1, (hc _).trans c2⟩
theorem KsO.box {w : World} {B g : Nat} {v u0 u1 : Value} {l : List Kt} {cs : Array Value} (h : KsO w B v l) (hg : w.heap[g]? = some (.cells cs 25 (0, 0))) : KsO ((w.setCell ⟨g, 0, none⟩ u0).setCell ⟨g, 1, none⟩ u1) B v l := by
  refine ⟨h.1, ?_⟩
  rcases h.2 with h0 | ⟨q, cap, cur, h1, h2, h3, h4⟩
  · exact .inl h0
  · have hne : q ≠ g := fun e => by
      subst e
      rw [hg] at h3
      cases h3
    exact .inr ⟨q, cap, cur, h1, h2, (Below.heap_setCell _ _ _ _ hne).trans ((Below.heap_setCell _ _ _ _ hne).trans h3), h4⟩
theorem Dats.up {w w' : World} {Q : List Kt} {D : List ByteArray} (h : Dats w Q D) (hb : Below w.heap.size w w') : Dats w' Q D := h.grown hb
section
variable {ops : Array Oper} {o : Oper} {rest : List Oper} {a : Act} {Q : Exit → Act → World → Prop} {w : World}
/-- One packet more: its block stays, or is new. -/
theorem wpList_append_Kf (hgd : o.guard = none) (s x : Operand) (ho : o.op = .call { callee := .builtin .append, args := #[s, x], argTypes := #[22, 22] })
    (B : Nat) (v : Value) (l : List Kt) (hs : a.eval s = v) (hown : KsO w B v l) (q : Nat) (m : Kt) (hx : a.eval x = .slice (some ⟨q, 0, none⟩) 1 1) (tb : TypeId) (fr : Nat × Nat)
    (hc : w.heap[q]? = some (.cells #[.int .i64 m.1, .int .i64 m.2.1, .slice m.2.2.1 m.2.2.2.1 m.2.2.2.2] tb fr)) (hlen : l.length ≤ 1000000) (hB : B ≤ w.heap.size)
    (h : ∀ g' cap' w', KsO w' B (.slice (some ⟨g', 0, none⟩) (l.length + 1) cap') (l ++ [m]) → (some g' = v.ownBlock ∨ w.heap.size ≤ g') → w.grownBy w' v.ownBlock → wpList Try.prog ops Q rest (a.put o.dst (.slice (some ⟨g', 0, none⟩) (l.length + 1) cap')) w') : wpList Try.prog ops Q (o :: rest) a w := by
  obtain ⟨i0, hi, hz0, hz1, hz2⟩ := info_parts info_K
  have e1 : ∀ j u, (encK m)[j]? = some u → w.cell? ((⟨q, 0, none⟩ : Addr).add j) = some u := fun j u hj => World.news_of_block hc j u (by simpa [encK] using hj)
  have e2 : ∀ u ∈ encK m, u.oneCell' = true := fun u hu => encLK_cells [m] u (by rw [encLK_one]; exact hu)
  have hll : ∀ (w' : World) (B' : Nat) (v' : Value), w'.ownsRow B' 28 3 v' (l.length + 1) (encLK l ++ encK m) → KsO w' B' v' (l ++ [m]) := fun w' B' v' h => by
    unfold KsO
    rw [encLK_app, encLK_one, List.length_append]
    exact h
  have grows : ∀ (ao : Option Addr) (n cap : Nat) (hv : v = .slice ao n cap) (hn : l.length = n) (hz : ao = none → n = 0 ∧ cap = 0) (hcell : ∀ b, ao = some b → ∀ j u, (encLK l)[j]? = some u → w.cell? (b.add j) = some u) (hr : ¬ n + 1 ≤ cap), wpList Try.prog ops Q (o :: rest) a w := by
    intro ao n cap hv hn hz hcell hr
    refine wpList_append_grows w hgd s x _ ho 28 i0 _ 3 40 Try.underlying22 hi hz0 hz1 hz2 rfl (by decide) ao n cap (encLK l) (hs.trans hv) hz (by rw [encLK_len, hn]) hcell ⟨q, 0, none⟩ 1 1 (encK m) hx rfl e1 e2 (by omega) (by unfold maxLen; omega) (by omega) ?_
    intro v' w' h1 h2
    rw [← hn] at h1
    have h3 := hll _ _ _ h1
    rcases h1.2 with ⟨_, h0⟩ | ⟨g', cap', cur, e, hg, _⟩
    · omega
    · subst e
      refine h g' cap' w' (h3.mono hB) (.inr hg) ⟨h2.os, h2.tape, h2.output, h2.size, fun k hk _ => h2.block k hk (by intro h; cases h)⟩
  rcases hown.2 with ⟨h0, hn⟩ | ⟨g, cap, cur, h1, h2, h3, h4⟩
  · exact grows none 0 0 h0 hn (fun _ => ⟨rfl, rfl⟩) (fun b hb => by cases hb) (by omega)
  · by_cases hr : l.length + 1 ≤ cap
    · refine wpList_append_fits w hgd s x _ ho B 28 i0 3 Try.underlying22 hi hz1 g l.length cap _ (hs.trans h1) (h1 ▸ hown) ⟨q, 0, none⟩ 1 1 (encK m) hx rfl e1 e2 hr ?_
      intro w' k1 k2
      exact h g cap w' (hll _ _ _ k1) (.inl (by rw [h1]; rfl)) (by rw [h1]; exact k2)
    · subst h1
      refine grows (some ⟨g, 0, none⟩) l.length cap rfl rfl (fun h => by cases h) (fun b hb j u hj => ?_) hr
      cases hb
      have hjl := (List.getElem?_eq_some_iff.1 hj).1
      rw [encLK_len] at hjl
      rw [Go.WideShapes.add_plain, Nat.zero_add]
      exact (hown.cellAt rfl j hjl).trans hj
end
end Go.Proofs.Ythgbkdaimnejeaa
