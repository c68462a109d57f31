/- Bytes and digests as arguments (layer 2). -/
import Derived.Test.YthbjjfblapfjdaaDoorDigTree
import Derived.Test.YthbjjfblapfjdaaDoorOwnBRow
import Derived.OpenShut
import Derived.ProofKit
namespace Go.Proofs.YthbjjfblapfjdaaDoor
open Go.ChangeShapes Go.WideShapes Go.ChangeAt Go.RowKit
theorem rowb_of {w : World} {a : Option Addr} {len cap : Nat} {zs : List Int} (h : (a = none ∧ len = 0 ∧ cap = 0 ∧ zs = []) ∨
    ∃ x, a = some x ∧ len ≤ cap ∧ cap ≤ maxLen ∧ zs.length = cap ∧ (∀ i, i < zs.length → w.cell? (x.add i) = some (.int .u8 (zs.getD i 0))) ∧ ∀ n ∈ zs, (Lit.int .u8 n).wf = true) :
    ∃ b off, RowB w a b off len (zs.take len) ∧ len ≤ cap ∧ cap ≤ 9223372036854775807 := by
  rcases h with ⟨rfl, rfl, rfl, rfl⟩ | ⟨x, rfl, hl, hm, hz, hc, _⟩
  · exact ⟨0, 0, ⟨rfl, fun h => by omega, fun h => by omega, fun i hi => by omega⟩, by omega, by omega⟩
  · unfold maxLen at hm
    by_cases h0 : 0 < zs.length
    · obtain ⟨b, off, rfl, hcc⟩ := ints_at hc h0
      refine ⟨b, off, ⟨by simp; omega, fun _ => rfl, fun _ => by have := World.block_lt_of_cell? w _ (hcc 0 h0); simpa using this, fun i hi => ?_⟩, hl, hm⟩
      rw [hcc i (by omega)]
      simp [List.getD_eq_getElem?_getD, hi]
    · obtain rfl : len = 0 := by omega
      exact ⟨0, 0, ⟨rfl, fun h => by omega, fun h => by omega, fun i hi => by omega⟩, by omega, by omega⟩
/-- A digest, by value, opened. -/
theorem open_digest {H : Type} {enc : TypeId × Value → H} {W : World} {base : Nat} {sp : Nat → Bool} {held : Bool} {r : Reach} {b0 : Nat} {v : Value} {d : DataW H} {p : List MemPlace} (hv : Value.okWide Tryd.prog W r b0 26 v) (h : DataW.Trod enc Tryd.prog W base sp held 26 v d p) :
    ∃ L : List Int, L.length = 32 ∧ v = .agg (bV L) := by
  have hu := Tryd.underlying26
  simp only [Value.okWide, hu] at hv
  obtain ⟨cs, rfl, hsz, _⟩ := hv
  obtain ⟨fuel, hf⟩ := h
  obtain ⟨xs, m1, rfl, _, hlen, hn3, hel⟩ := DataW.trod_array hu hf
  have c1 : Tryd.prog.cellsOf 5 = 1 := by kernel_rfl
  have hsz' : cs.size = 32 := hsz.trans (by kernel_rfl)
  have hk : ∀ i, i < 32 → ∃ k : Int, cs[i]? = some (.int .u8 k) := by
    intro i hi
    have h0 := hel i hi
    rw [List.getElem?_eq_getElem (by omega)] at h0
    obtain ⟨k, e1, _, _⟩ := DataW.trod_int Tryd.underlying5 h0
    rw [c1, Nat.mul_one] at e1
    have h2 : ((Value.agg cs).cells.toList.drop i)[0]? = some (.int .u8 k) := by
      have := congrArg (·[0]?) e1
      simpa [List.getElem?_take] using this
    exact ⟨k, by simpa [Value.cells, List.getElem?_drop] using h2⟩
  obtain ⟨f, hf⟩ := Classical.axiomOfChoice (fun i : Fin 32 => hk i.1 i.2)
  refine ⟨(List.finRange 32).map f, by simp, ?_⟩
  congr 1
  refine Array.ext (by simp [bV, hsz']) fun i h1 h2 => ?_
  have hi : i < 32 := by omega
  have := hf ⟨i, hi⟩
  rw [Array.getElem?_eq_getElem h1] at this
  simp only [Option.some.injEq] at this
  rw [this]
  simp [bV]
end Go.Proofs.YthbjjfblapfjdaaDoor
