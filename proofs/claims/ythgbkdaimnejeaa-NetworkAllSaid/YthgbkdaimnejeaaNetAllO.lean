/- NetworkAll from its arguments (layer 6). -/
import Derived.Test.YthgbkdaimnejeaaNetLawD
import Derived.OpenShut
import Derived.ProofKit
namespace Go.Proofs.Ythgbkdaimnejeaa
open Go.ChangeShapes Go.WideShapes Go.ChangeAt Go.RowKit Go.Sort Go.Shelf

theorem rowz_of {w : World} {a : Option Addr} {len cap : Nat} {zs : List Int} (h : (a = none ∧ len = 0 ∧ cap = 0 ∧ zs = []) ∨
    ∃ x, a = some x ∧ len ≤ cap ∧ cap ≤ maxLen ∧ zs.length = cap ∧ (∀ i, i < zs.length → w.cell? (x.add i) = some (.int .u8 (zs.getD i 0))) ∧ ∀ n ∈ zs, (Lit.int .u8 n).wf = true) :
    ∃ b off zt, RowB w a b off len zt ∧ ∀ i, i < len → 0 ≤ zt.getD i 0 ∧ zt.getD i 0 < 256 := by
  rcases h with ⟨rfl, rfl, rfl, rfl⟩ | ⟨x, rfl, hl, hm, hz, hc, hw⟩
  · exact ⟨0, 0, [], ⟨rfl, fun h => by omega, fun h => by omega, fun i hi => by omega⟩, fun i hi => by omega⟩
  · by_cases h0 : 0 < len
    · obtain ⟨b, off, spot⟩ := x
      have c0 := hc 0 (by omega)
      have hspot : spot = none := by simpa [Addr.add] using World.cell?_spot c0
      subst hspot
      have hb : b < w.heap.size := by have := World.block_lt_of_cell? w _ c0; simpa [Addr.add] using this
      have hz' : ∀ i, i < len → zs.getD i 0 = (zs.take len).getD i 0 := fun i hi => by simp [List.getD_eq_getElem?_getD, hi]
      refine ⟨b, off, zs.take len, ⟨by simp; omega, fun _ => rfl, fun _ => hb, fun i hi => ?_⟩, fun i hi => ?_⟩
      · have := hc i (by omega)
        rw [Go.WideShapes.add_plain] at this
        rw [this, hz' i hi]
      · rw [← hz' i hi]
        have h1 := hw (zs.getD i 0) (by rw [List.getD_eq_getElem?_getD, List.getElem?_eq_getElem (by omega)]; exact List.getElem_mem _)
        have h2 := bounds_u8 h1
        omega
    · obtain rfl : len = 0 := by omega
      exact ⟨0, 0, [], ⟨rfl, fun h => by omega, fun h => by omega, fun i hi => by omega⟩, fun i hi => by omega⟩
theorem all_open (s : Sl) (L : List Pk) (oa : Option Addr) (on oc : Nat) (zo : List Int) (w : World) (h : PksV w s L) (h' : (oa = none ∧ on = 0 ∧ oc = 0 ∧ zo = []) ∨
    ∃ x, oa = some x ∧ on ≤ oc ∧ oc ≤ maxLen ∧ zo.length = oc ∧ (∀ i, i < zo.length → w.cell? (x.add i) = some (.int .u8 (zo.getD i 0))) ∧ ∀ n ∈ zo, (Lit.int .u8 n).wf = true) :
    Calls Try.prog 6 #[.slice s.1 s.2.1 s.2.2, .slice oa on oc] w fun e w' => e = .returned (.bool true) ∧ Below w.heap.size w w' := by
  obtain ⟨b, off, Q, D, hK, hD, rfl, _⟩ := h
  obtain ⟨ob, oo, zt, hR, hz⟩ := rowz_of h'
  exact all_walk _ _ _ b off Q D oa on oc ob oo zt w hK hD hR hz
end Go.Proofs.Ythgbkdaimnejeaa
