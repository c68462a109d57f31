/- Arguments, opened by their types: slices of whatever elements, structs of one-cell fields, arrays of integers. -/
import Derived.Test.YthgbkdaimnejeaaBase
import Derived.Deep.Slices
import Derived.Deep.Fields
import Derived.Deep.Strs
import Derived.Lib.SmallJoins
import Derived.OpenShut
namespace Go.Proofs.Ythgbkdaimnejeaa
open Go.ChangeShapes Go.WideShapes Go.ChangeAt Go.RowKit Go.Deep

variable {H : Type} {enc : TypeId × Value → H} {P : Program} {w : World} {base : Nat} {spare : Nat → Bool} {held : Bool}
/-- A slice whose elements, s cells each, read as RE says. -/
def SlX {α : Type} [Inhabited α] (w : World) (s : Nat) (RE : List Value → α → Prop) (a : Option Addr) (len cap : Nat) (l : List α) : Prop :=
  (a = none ∧ len = 0 ∧ cap = 0 ∧ l = []) ∨ ∃ x, a = some x ∧ len ≤ cap ∧ cap ≤ maxLen ∧ l.length = len ∧ ∀ i, i < len → ∃ cs, cs.length = s ∧ (∀ j u, cs[j]? = some u → w.cell? (x.add (i * s + j)) = some u) ∧ RE cs (l.getD i default)
theorem slot_slice {t e : TypeId} {fuel : Nat} {c : Value} {x : DataW H × List MemPlace} (ht : P.underlying t = some (.slice e)) (h : DataW.trod enc P w base spare held fuel t [c] = some x) : ∃ a len cap, c = .slice a len cap := by
  rcases open_slice ht h with ⟨h0, _⟩ | ⟨ad, n, cc, m, q, D, Pl, hcs, _⟩
  · simp only [List.cons.injEq, and_true] at h0
    exact ⟨_, _, _, h0⟩
  · simp only [List.cons.injEq, and_true] at hcs
    exact ⟨_, _, _, hcs⟩
theorem open_slX {α : Type} [Inhabited α] {RE : List Value → α → Prop} {t e : TypeId} {s fuel : Nat} {c : Value} {x : DataW H × List MemPlace} (ht : P.underlying t = some (.slice e)) (hC : P.cellsOf e = s)
    (hE : ∀ (fuel : Nat) (cs : List Value) (x : DataW H × List MemPlace), cs.length = s → DataW.trod enc P w base spare held fuel e cs = some x → ∃ y, RE cs y)
    (h : DataW.trod enc P w base spare held fuel t [c] = some x) : ∃ a len cap l, c = .slice a len cap ∧ SlX w s RE a len cap l := by
  obtain ⟨a, len, cap, rfl⟩ := slot_slice ht h
  refine ⟨a, len, cap, ?_⟩
  rcases open_slice ht h with ⟨h0, _⟩ | ⟨ad, n, c, m, q, D, Pl, hcs, _, hl, hm, hmm, _, hi⟩
  · simp only [List.cons.injEq, Value.slice.injEq, and_true] at h0
    obtain ⟨rfl, rfl, rfl⟩ := h0
    exact ⟨[], rfl, .inl ⟨rfl, rfl, rfl, rfl⟩⟩
  · simp only [List.cons.injEq, Value.slice.injEq, and_true] at hcs
    obtain ⟨rfl, rfl, rfl⟩ := hcs
    have key : ∀ i, ∃ y : α, i < len → ∃ cs, cs.length = s ∧ (∀ j u, cs[j]? = some u → w.cell? (ad.add (i * s + j)) = some u) ∧ RE cs y := by
      intro i
      by_cases hil : i < len
      · obtain ⟨cs', hc, ht'⟩ := hi i (by rw [hmm]; split <;> omega)
        rw [hC] at hc
        obtain ⟨_, hcl, hat⟩ := World.cells?_some hc
        obtain ⟨y, hy⟩ := hE _ _ _ hcl ht'
        refine ⟨y, fun _ => ⟨cs', hcl, fun j u hj => ?_, hy⟩⟩
        have hjl := (List.getElem?_eq_some_iff.1 hj).1
        have := hat j (by omega)
        rw [Go.Deep.add_add] at this
        rw [this]; exact hj
      · exact ⟨default, fun h => absurd h hil⟩
    obtain ⟨f, hf⟩ := Classical.axiomOfChoice key
    refine ⟨(List.range len).map f, rfl, .inr ⟨ad, rfl, hl, hm, by simp, fun i hil => ?_⟩⟩
    have e : ((List.range len).map f).getD i default = f i := by simp [List.getD_eq_getElem?_getD, hil]
    rw [e]
    exact hf i hil
theorem slX_of {α : Type} [Inhabited α] {RE : List Value → α → Prop} {s : Nat} {a : Option Addr} {len cap : Nat} {l : List α} (hs : 0 < s) (h : SlX w s RE a len cap l) :
    ∃ b off, l.length = len ∧ (0 < len → a = some ⟨b, off, none⟩ ∧ b < w.heap.size) ∧ (∀ i, i < len → ∃ cs, cs.length = s ∧ (∀ j u, cs[j]? = some u → w.cell? ⟨b, off + (i * s + j), none⟩ = some u) ∧ RE cs (l.getD i default)) ∧ (a = none → cap = 0) ∧ len ≤ cap ∧ cap ≤ 9223372036854775807 := by
  rcases h with ⟨rfl, rfl, rfl, rfl⟩ | ⟨x, rfl, hl, hm, hz, hc⟩
  · exact ⟨0, 0, rfl, fun h => by omega, fun i hi => by omega, fun _ => rfl, by omega, by omega⟩
  · unfold maxLen at hm
    by_cases h0 : 0 < len
    · obtain ⟨b, off, spot⟩ := x
      obtain ⟨cs, hcl, hcc, _⟩ := hc 0 h0
      have h1 := hcc 0 (cs[0]'(by omega)) (by rw [List.getElem?_eq_getElem (by omega)])
      have hspot : spot = none := by simpa [Addr.add] using World.cell?_spot h1
      subst hspot
      have hbw : b < w.heap.size := by have := World.block_lt_of_cell? w _ h1; simpa [Addr.add] using this
      refine ⟨b, off, hz, fun _ => ⟨rfl, hbw⟩, fun i hi => ?_, fun h => (by cases h), hl, by omega⟩
      obtain ⟨cs, hcl, hcc, hR⟩ := hc i hi
      exact ⟨cs, hcl, fun j u hj => by have := hcc j u hj; rwa [Go.WideShapes.add_plain] at this, hR⟩
    · obtain rfl : len = 0 := by omega
      exact ⟨0, 0, hz, fun h => by omega, fun i hi => by omega, fun h => (by cases h), by omega, by omega⟩
/-- The cells of a struct of three one-cell fields. -/
theorem trod_s3 {t : TypeId} {f0 f1 f2 : Field} {fuel : Nat} {cs : List Value} {x : DataW H × List MemPlace} (ht : P.underlying t = some (.struct #[f0, f1, f2])) (hone : oneCellFields P #[f0, f1, f2] = true) (hC : P.cellsOf t = 3) (h : DataW.trod enc P w base spare held fuel t cs = some x) :
    ∃ v0 v1 v2 y0 y1 y2 n, cs = [v0, v1, v2] ∧ DataW.trod enc P w base spare held n f0.type [v0] = some y0 ∧ DataW.trod enc P w base spare held n f1.type [v1] = some y1 ∧ DataW.trod enc P w base spare held n f2.type [v2] = some y2 := by
  obtain ⟨xs, n, _, rfl, hl, hlen, hf⟩ := DataW.trod_struct ht h
  rw [hC] at hl
  obtain ⟨o0, k0⟩ := hone_of hone 0 f0 rfl
  obtain ⟨o1, k1⟩ := hone_of hone 1 f1 rfl
  obtain ⟨o2, k2⟩ := hone_of hone 2 f2 rfl
  match cs, hl, xs, hlen with
  | [v0, v1, v2], _, [y0, y1, y2], _ =>
    have g0 := hf 0 f0 rfl; have g1 := hf 1 f1 rfl; have g2 := hf 2 f2 rfl
    rw [o0, k0] at g0; rw [o1, k1] at g1; rw [o2, k2] at g2
    exact ⟨v0, v1, v2, y0, y1, y2, n, rfl, by simpa using g0, by simpa using g1, by simpa using g2⟩
/-- The cells of an array of two integers. -/
theorem trod_a2 {t e : TypeId} {k : IntKind} {fuel : Nat} {cs : List Value} {x : DataW H × List MemPlace} (ht : P.underlying t = some (.array 2 e)) (he : P.underlying e = some (.int k)) (hC : P.cellsOf e = 1) (hCt : P.cellsOf t = 2) (h : DataW.trod enc P w base spare held fuel t cs = some x) :
    ∃ a b, cs = [.int k a, .int k b] := by
  obtain ⟨xs, m, _, _, hl, hlen, hel⟩ := DataW.trod_array ht h
  rw [hCt] at hl
  have g0 := hel 0 (by omega); have g1 := hel 1 (by omega)
  rw [hC] at g0 g1
  match cs, hl, xs, hlen with
  | [v0, v1], _, [y0, y1], _ =>
    obtain ⟨a, e0, _, _⟩ := DataW.trod_int he (by simpa using g0)
    obtain ⟨b, e1, _, _⟩ := DataW.trod_int he (by simpa using g1)
    simp at e0 e1
    exact ⟨a, b, by rw [e0, e1]⟩
end Go.Proofs.Ythgbkdaimnejeaa
