/- An argument that is a slice of api.Span, or one by value, as the walks take it. Made by tools/gen_struct.py. -/
import Derived.Test.YthnhnmmabjmjgaaSH
import Derived.Deep.Slices
import Derived.Deep.Fields
import Derived.Deep.Strs
import Derived.Lib.SmallJoins
import Derived.OpenShut
namespace Go.Proofs.Ythnhnmmabjmjgaa
open Go.ChangeShapes Go.WideShapes Go.ChangeAt Go.RowKit Go.Deep

variable {H : Type} {enc : TypeId × Value → H} {P : Program} {w : World} {base : Nat} {spare : Nat → Bool} {held : Bool}
theorem trod_H {t : TypeId} {f0 f1 f2 f3 f4 : Field} {fuel : Nat} {cs : List Value} {x : DataW H × List MemPlace} (ht : P.underlying t = some (.struct #[f0, f1, f2, f3, f4])) (h : DataW.trod enc P w base spare held fuel t cs = some x) :
    ∃ y0 y1 y2 y3 y4 n, x = (.agg [y0.1, y1.1, y2.1, y3.1, y4.1], y0.2 ++ (y1.2 ++ (y2.2 ++ (y3.2 ++ y4.2)))) ∧ cs.length = P.cellsOf t ∧ DataW.trod enc P w base spare held n f0.type ((cs.drop f0.offset).take (P.cellsOf f0.type)) = some y0 ∧ DataW.trod enc P w base spare held n f1.type ((cs.drop f1.offset).take (P.cellsOf f1.type)) = some y1 ∧ DataW.trod enc P w base spare held n f2.type ((cs.drop f2.offset).take (P.cellsOf f2.type)) = some y2 ∧ DataW.trod enc P w base spare held n f3.type ((cs.drop f3.offset).take (P.cellsOf f3.type)) = some y3 ∧ DataW.trod enc P w base spare held n f4.type ((cs.drop f4.offset).take (P.cellsOf f4.type)) = some y4 := by
  obtain ⟨xs, n, _, rfl, hl, hlen, hf⟩ := DataW.trod_struct ht h
  match xs, hlen with
  | [y0, y1, y2, y3, y4], _ => exact ⟨y0, y1, y2, y3, y4, n, by simp, hl, by simpa using hf 0 f0 rfl, by simpa using hf 1 f1 rfl, by simpa using hf 2 f2 rfl, by simpa using hf 3 f3 rfl, by simpa using hf 4 f4 rfl⟩
theorem open_aggH {r : Reach} {b0 : Nat} {t : TypeId} {f0 f1 f2 f3 f4 : Field} {v : Value} {d : DataW H} {p : List MemPlace} (hs : P.underlying t = some (.struct #[f0, f1, f2, f3, f4])) (hone : oneCellFields P #[f0, f1, f2, f3, f4] = true) (hC : P.cellsOf t = 5)
    (hv : Value.okWide P w r b0 t v) (h : DataW.Trod enc P w base spare held t v d p) :
    ∃ (v0 v1 v2 v3 v4 : Value) (y0 y1 y2 y3 y4 : DataW H × List MemPlace) (n : Nat), v = .agg #[v0, v1, v2, v3, v4] ∧ d = .agg [y0.1, y1.1, y2.1, y3.1, y4.1] ∧ p = y0.2 ++ (y1.2 ++ (y2.2 ++ (y3.2 ++ y4.2))) ∧ DataW.trod enc P w base spare held n f0.type [v0] = some y0 ∧ DataW.trod enc P w base spare held n f1.type [v1] = some y1 ∧ DataW.trod enc P w base spare held n f2.type [v2] = some y2 ∧ DataW.trod enc P w base spare held n f3.type [v3] = some y3 ∧ DataW.trod enc P w base spare held n f4.type [v4] = some y4 := by
  obtain ⟨cs, rfl, hsz⟩ := okWide_struct hs hv
  obtain ⟨c0, c1, c2, c3, c4, rfl⟩ : ∃ c0 c1 c2 c3 c4, cs = #[c0, c1, c2, c3, c4] := by
    have h := hsz.trans hC
    obtain ⟨l⟩ := cs
    match l, h with
    | [c0, c1, c2, c3, c4], _ => exact ⟨c0, c1, c2, c3, c4, rfl⟩
  obtain ⟨fuel, hf⟩ := h
  obtain ⟨y0, y1, y2, y3, y4, n, hx, _, h0, h1, h2, h3, h4⟩ := trod_H hs hf
  obtain ⟨o0, k0⟩ := hone_of hone 0 f0 rfl
  obtain ⟨o1, k1⟩ := hone_of hone 1 f1 rfl
  obtain ⟨o2, k2⟩ := hone_of hone 2 f2 rfl
  obtain ⟨o3, k3⟩ := hone_of hone 3 f3 rfl
  obtain ⟨o4, k4⟩ := hone_of hone 4 f4 rfl
  simp only [Prod.mk.injEq] at hx
  exact ⟨c0, c1, c2, c3, c4, y0, y1, y2, y3, y4, n, rfl, hx.1, hx.2, by simpa [Value.cells, o0, k0] using h0, by simpa [Value.cells, o1, k1] using h1, by simpa [Value.cells, o2, k2] using h2, by simpa [Value.cells, o3, k3] using h3, by simpa [Value.cells, o4, k4] using h4⟩
/-- What lies at the places of the elements. -/
def LiesH (w : World) (a : Option Addr) (len cap : Nat) (l : List Ht) : Prop :=
  (a = none ∧ len = 0 ∧ cap = 0 ∧ l = []) ∨ ∃ x, a = some x ∧ len ≤ cap ∧ cap ≤ maxLen ∧ l.length = len ∧ ∀ i, i < len → w.cell? (x.add (i * 5)) = some (.int .i64 (nthH l i).1) ∧ w.cell? (x.add (i * 5 + 1)) = some (.int .i64 (nthH l i).2.1) ∧ w.cell? (x.add (i * 5 + 2)) = some (.int .i64 (nthH l i).2.2.1) ∧ w.cell? (x.add (i * 5 + 3)) = some (.bool (nthH l i).2.2.2.1) ∧ w.cell? (x.add (i * 5 + 4)) = some (.bool (nthH l i).2.2.2.2)
theorem open_liesH {t e : TypeId} {f0 f1 f2 f3 f4 : Field} {fuel len cap : Nat} {a : Option Addr} {x : DataW H × List MemPlace} (ht : P.underlying t = some (.slice e)) (he : P.underlying e = some (.struct #[f0, f1, f2, f3, f4]))
    (hone : oneCellFields P #[f0, f1, f2, f3, f4] = true) (hC : P.cellsOf e = 5) (k0 : P.underlying f0.type = some (.int .i64)) (k1 : P.underlying f1.type = some (.int .i64)) (k2 : P.underlying f2.type = some (.int .i64)) (k3 : P.underlying f3.type = some .bool) (k4 : P.underlying f4.type = some .bool)
    (h : DataW.trod enc P w base spare held fuel t [.slice a len cap] = some x) : ∃ l, LiesH w a len cap l := by
  rcases open_slice ht h with ⟨h0, _⟩ | ⟨ad, n, c, m, q, D, Pl, hcs, _, hl, hm, hmm, _, hi⟩
  · simp only [List.cons.injEq, Value.slice.injEq, and_true] at h0
    obtain ⟨rfl, rfl, rfl⟩ := h0
    exact ⟨[], .inl ⟨rfl, rfl, rfl, rfl⟩⟩
  · simp only [List.cons.injEq, Value.slice.injEq, and_true] at hcs
    obtain ⟨rfl, rfl, rfl⟩ := hcs
    have key : ∀ i, ∃ y : Ht, i < len → w.cell? (ad.add (i * 5)) = some (.int .i64 y.1) ∧ w.cell? (ad.add (i * 5 + 1)) = some (.int .i64 y.2.1) ∧ w.cell? (ad.add (i * 5 + 2)) = some (.int .i64 y.2.2.1) ∧ w.cell? (ad.add (i * 5 + 3)) = some (.bool y.2.2.2.1) ∧ w.cell? (ad.add (i * 5 + 4)) = some (.bool y.2.2.2.2) := by
      intro i
      by_cases hil : i < len
      · obtain ⟨cs', hc, ht'⟩ := hi i (by rw [hmm]; split <;> omega)
        rw [hC] at hc
        obtain ⟨_, hcl, hat⟩ := World.cells?_some hc
        obtain ⟨y0, y1, y2, y3, y4, n', _, _, g0, g1, g2, g3, g4⟩ := trod_H he ht'
        obtain ⟨o0, s0⟩ := hone_of hone 0 f0 rfl
        obtain ⟨o1, s1⟩ := hone_of hone 1 f1 rfl
        obtain ⟨o2, s2⟩ := hone_of hone 2 f2 rfl
        obtain ⟨o3, s3⟩ := hone_of hone 3 f3 rfl
        obtain ⟨o4, s4⟩ := hone_of hone 4 f4 rfl
        match cs', hcl with
        | [v0, v1, v2, v3, v4], _ =>
          rw [o0, s0] at g0
          rw [o1, s1] at g1
          rw [o2, s2] at g2
          rw [o3, s3] at g3
          rw [o4, s4] at g4
          obtain ⟨a0, e0, _, _⟩ := DataW.trod_int k0 g0
          obtain ⟨a1, e1, _, _⟩ := DataW.trod_int k1 g1
          obtain ⟨a2, e2, _, _⟩ := DataW.trod_int k2 g2
          obtain ⟨a3, e3, _⟩ := DataW.trod_bool k3 g3
          obtain ⟨a4, e4, _⟩ := DataW.trod_bool k4 g4
          simp at e0 e1 e2 e3 e4
          subst e0 e1 e2 e3 e4
          have c0 := hat 0 (by omega); have c1 := hat 1 (by omega); have c2 := hat 2 (by omega); have c3 := hat 3 (by omega); have c4 := hat 4 (by omega)
          rw [Go.Deep.add_add] at c0 c1 c2 c3 c4
          exact ⟨(a0, a1, a2, a3, a4), fun _ => ⟨by simpa using c0, by simpa using c1, by simpa using c2, by simpa using c3, by simpa using c4⟩⟩
      · exact ⟨(0, 0, 0, false, false), fun h => absurd h hil⟩
    obtain ⟨f, hf⟩ := Classical.axiomOfChoice key
    refine ⟨(List.range len).map f, .inr ⟨ad, rfl, hl, hm, by simp, fun i hil => ?_⟩⟩
    have e : nthH ((List.range len).map f) i = f i := by
      unfold nthH
      simp [List.getD_eq_getElem?_getD, hil]
    rw [e]
    exact hf i hil
theorem liesH_of {w : World} {a : Option Addr} {len cap : Nat} {l : List Ht} (h : LiesH w a len cap l) : ∃ b off, Hs w a len b off l ∧ (0 < len → ∃ c tb fr, w.heap[b]? = some (.cells c tb fr)) ∧ len ≤ 9223372036854775807 ∧ (a = none → cap = 0) ∧ len ≤ cap ∧ cap ≤ 9223372036854775807 := by
  rcases h with ⟨rfl, rfl, rfl, rfl⟩ | ⟨x, rfl, hl, hm, hz, hc⟩
  · exact ⟨0, 0, ⟨rfl, fun h => by omega, fun i hi => by omega⟩, fun h => by omega, by omega, fun _ => rfl, by omega, by omega⟩
  · unfold maxLen at hm
    by_cases h0 : 0 < len
    · obtain ⟨b, off, spot⟩ := x
      have hspot : spot = none := by simpa [Addr.add] using World.cell?_spot (hc 0 h0).1
      subst hspot
      have hbw : b < w.heap.size := by have := World.block_lt_of_cell? w _ (hc 0 h0).1; simpa [Addr.add] using this
      refine ⟨b, off, ⟨hz, fun _ => ⟨rfl, hbw⟩, fun i hi => ?_⟩, fun _ => ?_, by omega, fun h => (by cases h), hl, by omega⟩
      · obtain ⟨c0, c1, c2, c3, c4⟩ := hc i hi
        rw [Go.WideShapes.add_plain] at c0 c1 c2 c3 c4
        exact ⟨c0, by rw [Nat.add_assoc]; exact c1, by rw [Nat.add_assoc]; exact c2, by rw [Nat.add_assoc]; exact c3, by rw [Nat.add_assoc]; exact c4⟩
      · have h1 := (hc 0 h0).1
        rw [Go.WideShapes.add_plain] at h1
        unfold World.cell? at h1
        dsimp only at h1
        split at h1
        · rename_i c tb fr heq
          exact ⟨c, tb, fr, heq⟩
        · cases h1
    · obtain rfl : len = 0 := by omega
      exact ⟨0, 0, ⟨hz, fun h => by omega, fun i hi => by omega⟩, fun h => by omega, by omega, fun h => (by cases h), by omega, by omega⟩
end Go.Proofs.Ythnhnmmabjmjgaa
