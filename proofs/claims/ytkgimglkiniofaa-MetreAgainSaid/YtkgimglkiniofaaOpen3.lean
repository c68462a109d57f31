/- An argument that is a slice of structs of three integers, as the walks take it. -/
import Derived.Test.YtkgimglkiniofaaMetreLawA
import Derived.Deep.Slices
import Derived.Deep.Fields
import Derived.Deep.Strs
import Derived.Lib.SmallJoins
import Derived.OpenShut
namespace Go.Proofs.Ytkgimglkiniofaa
open Go.ChangeShapes Go.WideShapes Go.ChangeAt Go.RowKit Go.Deep

variable {H : Type} {enc : TypeId × Value → H} {P : Program} {w : World} {base : Nat} {spare : Nat → Bool} {held : Bool}
/-- What lies at the places of the elements. -/
def Trips (w : World) (a : Option Addr) (len cap : Nat) (l : List Mt) : Prop :=
  (a = none ∧ len = 0 ∧ cap = 0 ∧ l = []) ∨ ∃ x, a = some x ∧ len ≤ cap ∧ cap ≤ maxLen ∧ l.length = len ∧ ∀ i, i < len → w.cell? (x.add (i * 3)) = some (.int .i64 (nthM l i).1) ∧ w.cell? (x.add (i * 3 + 1)) = some (.int .i64 (nthM l i).2.1) ∧ w.cell? (x.add (i * 3 + 2)) = some (.int .i64 (nthM l i).2.2)
theorem open_trips {t e : TypeId} {f0 f1 f2 : Field} {fuel len cap : Nat} {a : Option Addr} {x : DataW H × List MemPlace} (ht : P.underlying t = some (.slice e)) (he : P.underlying e = some (.struct #[f0, f1, f2]))
    (hone : oneCellFields P #[f0, f1, f2] = true) (hC : P.cellsOf e = 3) (k0 : P.underlying f0.type = some (.int .i64)) (k1 : P.underlying f1.type = some (.int .i64)) (k2 : P.underlying f2.type = some (.int .i64))
    (h : DataW.trod enc P w base spare held fuel t [.slice a len cap] = some x) : ∃ l, Trips w a len cap l := by
  rcases open_slice ht h with ⟨h0, _⟩ | ⟨ad, n, c, m, q, D, Pl, hcs, _, hl, hm, hmm, _, hi⟩
  · simp only [List.cons.injEq, Value.slice.injEq, and_true] at h0
    obtain ⟨rfl, rfl, rfl⟩ := h0
    exact ⟨[], .inl ⟨rfl, rfl, rfl, rfl⟩⟩
  · simp only [List.cons.injEq, Value.slice.injEq, and_true] at hcs
    obtain ⟨rfl, rfl, rfl⟩ := hcs
    have key : ∀ i, ∃ y : Mt, i < len → w.cell? (ad.add (i * 3)) = some (.int .i64 y.1) ∧ w.cell? (ad.add (i * 3 + 1)) = some (.int .i64 y.2.1) ∧ w.cell? (ad.add (i * 3 + 2)) = some (.int .i64 y.2.2) := by
      intro i
      by_cases hil : i < len
      · obtain ⟨cs', hc, ht'⟩ := hi i (by rw [hmm]; split <;> omega)
        rw [hC] at hc
        obtain ⟨_, hcl, hat⟩ := World.cells?_some hc
        obtain ⟨y0, y1, y2, n', _, _, g0, g1, g2⟩ := trod_struct3 he ht'
        obtain ⟨o0, s0⟩ := hone_of hone 0 f0 rfl
        obtain ⟨o1, s1⟩ := hone_of hone 1 f1 rfl
        obtain ⟨o2, s2⟩ := hone_of hone 2 f2 rfl
        match cs', hcl with
        | [v0, v1, v2], _ =>
          rw [o0, s0] at g0
          rw [o1, s1] at g1
          rw [o2, s2] at g2
          obtain ⟨a0, e0, _, _⟩ := DataW.trod_int k0 g0
          obtain ⟨a1, e1, _, _⟩ := DataW.trod_int k1 g1
          obtain ⟨a2, e2, _, _⟩ := DataW.trod_int k2 g2
          simp at e0 e1 e2
          subst e0 e1 e2
          have c0 := hat 0 (by omega); have c1 := hat 1 (by omega); have c2 := hat 2 (by omega)
          rw [Go.Deep.add_add] at c0 c1 c2
          exact ⟨(a0, a1, a2), fun _ => ⟨by simpa using c0, by simpa using c1, by simpa using c2⟩⟩
      · exact ⟨(0, 0, 0), fun h => absurd h hil⟩
    obtain ⟨f, hf⟩ := Classical.axiomOfChoice key
    refine ⟨(List.range len).map f, .inr ⟨ad, rfl, hl, hm, by simp, fun i hil => ?_⟩⟩
    have e : nthM ((List.range len).map f) i = f i := by
      unfold nthM
      simp [List.getD_eq_getElem?_getD, hil]
    rw [e]
    exact hf i hil
theorem ms_of {w : World} {a : Option Addr} {len cap : Nat} {l : List Mt} (h : Trips w a len cap l) : ∃ b off, Ms w a len b off l ∧ (0 < len → ∃ c tb fr, w.heap[b]? = some (.cells c tb fr)) ∧ len ≤ 9223372036854775807 := by
  rcases h with ⟨rfl, rfl, rfl, rfl⟩ | ⟨x, rfl, hl, hm, hz, hc⟩
  · exact ⟨0, 0, ⟨rfl, fun h => by omega, fun i hi => by omega⟩, fun h => by omega, by omega⟩
  · unfold maxLen at hm
    by_cases h0 : 0 < len
    · obtain ⟨b, off, spot⟩ := x
      have hspot : spot = none := by simpa [Addr.add] using World.cell?_spot (hc 0 h0).1
      subst hspot
      have hbw : b < w.heap.size := by have := World.block_lt_of_cell? w _ (hc 0 h0).1; simpa [Addr.add] using this
      refine ⟨b, off, ⟨hz, fun _ => ⟨rfl, hbw⟩, fun i hi => ?_⟩, fun _ => ?_, by omega⟩
      · obtain ⟨c0, c1, c2⟩ := hc i hi
        rw [Go.WideShapes.add_plain] at c0 c1 c2
        exact ⟨c0, by rw [Nat.add_assoc]; exact c1, by rw [Nat.add_assoc]; exact c2⟩
      · have h1 := (hc 0 h0).1
        rw [Go.WideShapes.add_plain] at h1
        unfold World.cell? at h1
        dsimp only at h1
        split at h1
        · rename_i c tb fr heq
          exact ⟨c, tb, fr, heq⟩
        · cases h1
    · obtain rfl : len = 0 := by omega
      exact ⟨0, 0, ⟨hz, fun h => by omega, fun i hi => by omega⟩, fun h => by omega, by omega⟩
end Go.Proofs.Ytkgimglkiniofaa
