/- A digest as an argument (layer 44). -/
import Derived.Test.YthnhnmmabjmjgaaPlc
import Derived.OpenShut
import Derived.ProofKit
namespace Go.Proofs.Ythnhnmmabjmjgaa
open Go.ChangeShapes Go.WideShapes Go.ChangeAt Go.RowKit

set_option maxRecDepth 100000 in
/-- A digest, by value, opened. -/
theorem open_digest {H : Type} {enc : TypeId × Value → H} {W : World} {base : Nat} {sp : Nat → Bool} {held : Bool} {r : Reach} {b0 : Nat} {v : Value} {d : DataW H} {p : List MemPlace} (hv : Value.okWide Try.prog W r b0 34 v) (h : DataW.Trod enc Try.prog W base sp held 34 v d p) :
    ∃ L : List Int, L.length = 32 ∧ v = .agg (bV L) := by
  have hu := Try.underlying34
  simp only [Value.okWide, hu] at hv
  obtain ⟨cs, rfl, hsz, _⟩ := hv
  obtain ⟨fuel, hf⟩ := h
  obtain ⟨xs, m1, rfl, _, hlen, hn3, hel⟩ := DataW.trod_array hu hf
  have c1 : Try.prog.cellsOf 5 = 1 := by kernel_rfl
  have hsz' : cs.size = 32 := hsz.trans (by kernel_rfl)
  have hk : ∀ i, i < 32 → ∃ k : Int, cs[i]? = some (.int .u8 k) := by
    intro i hi
    have h0 := hel i hi
    rw [List.getElem?_eq_getElem (by omega)] at h0
    obtain ⟨k, e1, _, _⟩ := DataW.trod_int Try.underlying5 h0
    rw [c1, Nat.mul_one] at e1
    have h2 : ((Value.agg cs).cells.toList.drop i)[0]? = some (.int .u8 k) := by
      have := congrArg (·[0]?) e1
      simpa [List.getElem?_take] using this
    exact ⟨k, by simpa [Value.cells, List.getElem?_drop] using h2⟩
  obtain ⟨f, hf⟩ := Classical.axiomOfChoice (fun i : Fin 32 => hk i.1 i.2)
  refine ⟨(List.finRange 32).map f, by simp, ?_⟩
  congr 1
  refine Array.ext (by simp [bV, hsz']) fun i h1 h2 => ?_
  have hi : i < 32 := by omega
  have := hf ⟨i, hi⟩
  rw [Array.getElem?_eq_getElem h1] at this
  simp only [Option.some.injEq] at this
  rw [this]
  simp [bV]
end Go.Proofs.Ythnhnmmabjmjgaa
