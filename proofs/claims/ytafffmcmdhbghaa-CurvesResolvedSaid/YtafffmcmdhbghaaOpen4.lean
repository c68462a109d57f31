/- An argument that is a slice of structs of three integers and a bool, as the walks take it. -/
import Derived.Test.YtafffmcmdhbghaaTemCheck
import Derived.Deep.Slices
import Derived.Deep.Fields
import Derived.Deep.Strs
import Derived.Lib.SmallJoins
import Derived.OpenShut
namespace Go.Proofs.Ytafffmcmdhbghaa
open Go.ChangeShapes Go.WideShapes Go.ChangeAt Go.RowKit Go.Deep

variable {H : Type} {enc : TypeId × Value → H} {P : Program} {w : World} {base : Nat} {spare : Nat → Bool} {held : Bool}
/-- What lies at the places of the elements. -/
def Trips (w : World) (a : Option Addr) (len cap : Nat) (l : List Tp) : Prop :=
  (a = none ∧ len = 0 ∧ cap = 0 ∧ l = []) ∨ ∃ x, a = some x ∧ len ≤ cap ∧ cap ≤ maxLen ∧ l.length = len ∧ ∀ i, i < len → w.cell? (x.add (i * 4)) = some (.int .i64 (nthT l i).1) ∧ w.cell? (x.add (i * 4 + 1)) = some (.int .i64 (nthT l i).2.1) ∧ w.cell? (x.add (i * 4 + 2)) = some (.int .i64 (nthT l i).2.2.1) ∧ w.cell? (x.add (i * 4 + 3)) = some (.bool (nthT l i).2.2.2)
theorem open_trips {t e : TypeId} {f0 f1 f2 f3 : Field} {fuel len cap : Nat} {a : Option Addr} {x : DataW H × List MemPlace} (ht : P.underlying t = some (.slice e)) (he : P.underlying e = some (.struct #[f0, f1, f2, f3]))
    (hone : oneCellFields P #[f0, f1, f2, f3] = true) (hC : P.cellsOf e = 4) (k0 : P.underlying f0.type = some (.int .i64)) (k1 : P.underlying f1.type = some (.int .i64)) (k2 : P.underlying f2.type = some (.int .i64)) (k3 : P.underlying f3.type = some .bool)
    (h : DataW.trod enc P w base spare held fuel t [.slice a len cap] = some x) : ∃ l, Trips w a len cap l := by
  rcases open_slice ht h with ⟨h0, _⟩ | ⟨ad, n, c, m, q, D, Pl, hcs, _, hl, hm, hmm, _, hi⟩
  · simp only [List.cons.injEq, Value.slice.injEq, and_true] at h0
    obtain ⟨rfl, rfl, rfl⟩ := h0
    exact ⟨[], .inl ⟨rfl, rfl, rfl, rfl⟩⟩
  · simp only [List.cons.injEq, Value.slice.injEq, and_true] at hcs
    obtain ⟨rfl, rfl, rfl⟩ := hcs
    have key : ∀ i, ∃ y : Tp, i < len → w.cell? (ad.add (i * 4)) = some (.int .i64 y.1) ∧ w.cell? (ad.add (i * 4 + 1)) = some (.int .i64 y.2.1) ∧ w.cell? (ad.add (i * 4 + 2)) = some (.int .i64 y.2.2.1) ∧ w.cell? (ad.add (i * 4 + 3)) = some (.bool y.2.2.2) := by
      intro i
      by_cases hil : i < len
      · obtain ⟨cs', hc, ht'⟩ := hi i (by rw [hmm]; split <;> omega)
        rw [hC] at hc
        obtain ⟨_, hcl, hat⟩ := World.cells?_some hc
        obtain ⟨y0, y1, y2, y3, n', _, _, g0, g1, g2, g3⟩ := Joins.trod_struct4 he ht'
        obtain ⟨o0, s0⟩ := hone_of hone 0 f0 rfl
        obtain ⟨o1, s1⟩ := hone_of hone 1 f1 rfl
        obtain ⟨o2, s2⟩ := hone_of hone 2 f2 rfl
        obtain ⟨o3, s3⟩ := hone_of hone 3 f3 rfl
        match cs', hcl with
        | [v0, v1, v2, v3], _ =>
          rw [o0, s0] at g0
          rw [o1, s1] at g1
          rw [o2, s2] at g2
          rw [o3, s3] at g3
          obtain ⟨a0, e0, _, _⟩ := DataW.trod_int k0 g0
          obtain ⟨a1, e1, _, _⟩ := DataW.trod_int k1 g1
          obtain ⟨a2, e2, _, _⟩ := DataW.trod_int k2 g2
          obtain ⟨a3, e3, _⟩ := DataW.trod_bool k3 g3
          simp at e0 e1 e2 e3
          subst e0 e1 e2 e3
          have c0 := hat 0 (by omega); have c1 := hat 1 (by omega); have c2 := hat 2 (by omega); have c3 := hat 3 (by omega)
          rw [Go.Deep.add_add] at c0 c1 c2 c3
          exact ⟨(a0, a1, a2, a3), fun _ => ⟨by simpa using c0, by simpa using c1, by simpa using c2, by simpa using c3⟩⟩
      · exact ⟨(0, 0, 0, false), fun h => absurd h hil⟩
    obtain ⟨f, hf⟩ := Classical.axiomOfChoice key
    refine ⟨(List.range len).map f, .inr ⟨ad, rfl, hl, hm, by simp, fun i hil => ?_⟩⟩
    have e : nthT ((List.range len).map f) i = f i := by
      unfold nthT
      simp [List.getD_eq_getElem?_getD, hil]
    rw [e]
    exact hf i hil
theorem ts_of {w : World} {a : Option Addr} {len cap : Nat} {l : List Tp} (h : Trips w a len cap l) : ∃ b off, Ts w a len b off l ∧ (0 < len → ∃ c tb fr, w.heap[b]? = some (.cells c tb fr)) ∧ len ≤ 9223372036854775807 ∧ (a = none → cap = 0) ∧ len ≤ cap ∧ cap ≤ 9223372036854775807 := by
  rcases h with ⟨rfl, rfl, rfl, rfl⟩ | ⟨x, rfl, hl, hm, hz, hc⟩
  · exact ⟨0, 0, ⟨rfl, fun h => by omega, fun i hi => by omega⟩, fun h => by omega, by omega, fun _ => rfl, by omega, by omega⟩
  · unfold maxLen at hm
    by_cases h0 : 0 < len
    · obtain ⟨b, off, spot⟩ := x
      have hspot : spot = none := by simpa [Addr.add] using World.cell?_spot (hc 0 h0).1
      subst hspot
      have hbw : b < w.heap.size := by have := World.block_lt_of_cell? w _ (hc 0 h0).1; simpa [Addr.add] using this
      refine ⟨b, off, ⟨hz, fun _ => ⟨rfl, hbw⟩, fun i hi => ?_⟩, fun _ => ?_, by omega, fun h => (by cases h), hl, by omega⟩
      · obtain ⟨c0, c1, c2, c3⟩ := hc i hi
        rw [Go.WideShapes.add_plain] at c0 c1 c2 c3
        exact ⟨c0, by rw [Nat.add_assoc]; exact c1, by rw [Nat.add_assoc]; exact c2, by rw [Nat.add_assoc]; exact c3⟩
      · have h1 := (hc 0 h0).1
        rw [Go.WideShapes.add_plain] at h1
        unfold World.cell? at h1
        dsimp only at h1
        split at h1
        · rename_i c tb fr heq
          exact ⟨c, tb, fr, heq⟩
        · cases h1
    · obtain rfl : len = 0 := by omega
      exact ⟨0, 0, ⟨hz, fun h => by omega, fun i hi => by omega⟩, fun h => by omega, by omega, fun h => (by cases h), by omega, by omega⟩
end Go.Proofs.Ytafffmcmdhbghaa
