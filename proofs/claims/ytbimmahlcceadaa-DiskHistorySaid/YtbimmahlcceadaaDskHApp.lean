/- Acts that wait: a slice of one's own that grows (layer 4). -/
import Derived.Test.YtbimmahlcceadaaDskHistM
import Derived.Test.YtbimmahlcceadaaSA
import Derived.OwnWalk
import Derived.ArgAppend
namespace Go.Proofs.Ytbimmahlcceadaa
open Go.ChangeShapes Go.WideShapes Go.ChangeAt Go.RowKit
variable {ops : Array Oper} {o : Oper} {rest : List Oper} {a : Act} {Q : Exit → Act → World → Prop} {w : World}
theorem wpList_append_Ag (hgd : o.guard = none) (s x : Operand) (ho : o.op = .call { callee := .builtin .append, args := #[s, x], argTypes := #[43, 43] })
    (B g n cap : Nat) (l : List At) (hs : a.eval s = .slice (some ⟨g, 0, none⟩) n cap) (hown : AsO w B (.slice (some ⟨g, 0, none⟩) n cap) l) (hl : l.length = n) (q : Nat) (m : At) (hx : a.eval x = .slice (some ⟨q, 0, none⟩) 1 1) (tb : TypeId) (fr : Nat × Nat)
    (hc : w.heap[q]? = some (.cells #[.bool m.1, .int .u8 m.2.1, .int .u8 m.2.2] tb fr)) (hlen : n ≤ 1000000) (hB : B ≤ w.heap.size)
    (h : ∀ g' cap' w', AsO w' B (.slice (some ⟨g', 0, none⟩) (n + 1) cap') (l ++ [m]) → (g' = g ∨ w.heap.size ≤ g') → w.grownBy w' (some g) → wpList Try.prog ops Q rest (a.put o.dst (.slice (some ⟨g', 0, none⟩) (n + 1) cap')) w') : wpList Try.prog ops Q (o :: rest) a w := by
  obtain ⟨i0, hi, hz0, hz1, hz2⟩ := info_parts info_A
  subst hl
  have e1 : ∀ j u, (encA m)[j]? = some u → w.cell? ((⟨q, 0, none⟩ : Addr).add j) = some u := fun j u hj => World.news_of_block hc j u (by simpa [encA] using hj)
  have e2 : ∀ u ∈ encA m, u.oneCell' = true := fun u hu => encLA_cells [m] u (by rw [encLA_one]; exact hu)
  have hll : ∀ (w' : World) (B' : Nat) (v' : Value), w'.ownsRow B' 46 3 v' (l.length + 1) (encLA l ++ encA m) → AsO w' B' v' (l ++ [m]) := fun w' B' v' h => by
    unfold AsO
    rw [encLA_app, encLA_one, List.length_append]
    exact h
  by_cases hr : l.length + 1 ≤ cap
  · refine wpList_append_fits w hgd s x _ ho B 46 i0 3 Try.underlying43 hi hz1 g l.length cap _ hs hown ⟨q, 0, none⟩ 1 1 (encA m) hx rfl e1 e2 hr ?_
    intro w' h1 h2
    exact h g cap w' (hll _ _ _ h1) (.inl rfl) h2
  · refine wpList_append_grows w hgd s x _ ho 46 i0 _ 3 3 Try.underlying43 hi hz0 hz1 hz2 rfl (by decide) (some ⟨g, 0, none⟩) l.length cap (encLA l) hs (fun h => by cases h) (encLA_len l) ?_ ⟨q, 0, none⟩ 1 1 (encA m) hx rfl e1 e2 (by omega) (by unfold maxLen; omega) (by omega) ?_
    · intro b hb j u hj
      cases hb
      have hjl := (List.getElem?_eq_some_iff.1 hj).1
      rw [encLA_len] at hjl
      rw [Go.WideShapes.add_plain, Nat.zero_add]
      exact (hown.cellAt rfl j hjl).trans hj
    · intro v' w' h1 h2
      have h3 := hll _ _ _ h1
      rcases h1.2 with ⟨_, h0⟩ | ⟨g', cap', cur, e, hg, _⟩
      · omega
      · subst e
        refine h g' cap' w' ⟨h3.1, ?_⟩ (.inr hg) ⟨h2.os, h2.tape, h2.output, h2.size, fun k hk _ => h2.block k hk (by intro h; cases h)⟩
        rcases h3.2 with h0 | ⟨g2, c2, cur2, e2, hg2, h4⟩
        · exact .inl h0
        · exact .inr ⟨g2, c2, cur2, e2, Nat.le_trans hB hg2, h4⟩
theorem UpdR.of_grown {w w' : World} {g : Nat} (h : w.grownBy w' (some g)) : UpdR g (g + 1) w w' := ⟨h.size, fun q hq hn => h.block q hq (by intro e; have := Option.some.inj e; omega)⟩
theorem SlF.fresh {w w' : World} {g g' : Nat} {s : Sl} (h : SlF w g (g + 1) s) (u : UpdR g (g + 1) w w') (hg : g' = g ∨ w.heap.size ≤ g') : SlF w' g' (g' + 1) s := by
  rcases hg with rfl | hg
  · exact h.upd u
  · have hu := h.upd u
    obtain ⟨b, off, _, hR, _⟩ := h
    obtain ⟨b', off', _, hR', h3⟩ := hu
    refine ⟨b', off', fun h0 => .inl ?_, hR', h3⟩
    have e1 := hR.adr h0
    have e2 := hR'.adr h0
    rw [e1] at e2
    cases e2
    have := hR.old h0
    omega
theorem SecsF.fresh {w w' : World} {g g' : Nat} {a : Option Addr} {b off n : Nat} {S : List Sl} (h : SecsF w g (g + 1) a b off n S) (u : UpdR g (g + 1) w w') (hg : g' = g ∨ w.heap.size ≤ g') : SecsF w' g' (g' + 1) a b off n S :=
  ⟨(h.upd u).s, fun hn => by rcases hg with rfl | hg; exact h.far hn; exact .inl (by have := h.s.old hn; omega), fun i hi => (h.row i hi).fresh u hg⟩
theorem PensF.fresh {w w' : World} {g g' : Nat} {a : Option Addr} {b off n : Nat} {P : List Wr} (h : PensF w g (g + 1) a b off n P) (u : UpdR g (g + 1) w w') (hg : g' = g ∨ w.heap.size ≤ g') : PensF w' g' (g' + 1) a b off n P :=
  ⟨(h.upd u).s, fun hn => by rcases hg with rfl | hg; exact h.far hn; exact .inl (by have := h.s.old hn; omega), fun i hi => (h.row i hi).fresh u hg⟩
theorem SecsF.upd2 {lo hi lo2 hi2 : Nat} {w w' : World} {a : Option Addr} {b off n : Nat} {S : List Sl} (h : SecsF w lo hi a b off n S) (h2 : SecsF w lo2 hi2 a b off n S) (u : UpdR lo2 hi2 w w') : SecsF w' lo hi a b off n S :=
  ⟨(h2.upd u).s, h.far, fun i hi => (h.row i hi).upd2 (h2.row i hi) u⟩
end Go.Proofs.Ytbimmahlcceadaa
