/- An argument that is a slice of integers, as the walks take it. -/
import Derived.Test.YthncfhfnboocmaaOwn
import Derived.OpenShut
namespace Go.Proofs.Ythncfhfnboocmaa
open Go.ChangeShapes Go.WideShapes Go.ChangeAt Go.RowKit

theorem row_of {w : World} {a : Option Addr} {len cap : Nat} {zs : List Int} (h : (a = none ∧ len = 0 ∧ cap = 0 ∧ zs = []) ∨
    ∃ x, a = some x ∧ len ≤ cap ∧ cap ≤ maxLen ∧ zs.length = cap ∧ (∀ i, i < zs.length → w.cell? (x.add i) = some (.int .i64 (zs.getD i 0))) ∧ ∀ n ∈ zs, (Lit.int .i64 n).wf = true) :
    ∃ b off, Row w a b off len (zs.take len) ∧ len ≤ cap ∧ cap ≤ 9223372036854775807 := by
  rcases h with ⟨rfl, rfl, rfl, rfl⟩ | ⟨x, rfl, hl, hm, hz, hc, _⟩
  · exact ⟨0, 0, ⟨rfl, fun h => by omega, fun h => by omega, fun i hi => by omega⟩, by omega, by omega⟩
  · unfold maxLen at hm
    by_cases h0 : 0 < zs.length
    · obtain ⟨b, off, rfl, hcc⟩ := ints_at hc h0
      refine ⟨b, off, ⟨by simp; omega, fun _ => rfl, fun _ => by have := World.block_lt_of_cell? w _ (hcc 0 h0); simpa using this, fun i hi => ?_⟩, hl, hm⟩
      rw [hcc i (by omega)]
      simp [List.getD_eq_getElem?_getD, hi]
    · obtain rfl : len = 0 := by omega
      exact ⟨0, 0, ⟨by simp, fun h => by omega, fun h => by omega, fun i hi => by omega⟩, by omega, by omega⟩
/-- The numbers that a walk is told fit their kind. -/
theorem row_wf {w : World} {a : Option Addr} {len cap : Nat} {zs : List Int} (h : (a = none ∧ len = 0 ∧ cap = 0 ∧ zs = []) ∨
    ∃ x, a = some x ∧ len ≤ cap ∧ cap ≤ maxLen ∧ zs.length = cap ∧ (∀ i, i < zs.length → w.cell? (x.add i) = some (.int .i64 (zs.getD i 0))) ∧ ∀ n ∈ zs, (Lit.int .i64 n).wf = true) :
    ∀ n ∈ zs.take len, (Lit.int .i64 n).wf = true := by
  rcases h with ⟨_, rfl, _, rfl⟩ | ⟨x, _, _, _, _, _, hw⟩
  · intro n hn; simp at hn
  · exact fun n hn => hw n (List.mem_of_mem_take hn)
end Go.Proofs.Ythncfhfnboocmaa
