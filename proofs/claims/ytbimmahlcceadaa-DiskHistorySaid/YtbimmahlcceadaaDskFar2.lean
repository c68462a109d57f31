/- What stays when another block is written (layer 4). -/
import Derived.Test.YtbimmahlcceadaaDskFar
namespace Go.Proofs.Ytbimmahlcceadaa
open Go.ChangeShapes Go.WideShapes Go.ChangeAt Go.RowKit
theorem SlF.upd2 {lo hi lo2 hi2 : Nat} {w w' : World} {s : Sl} (h : SlF w lo hi s) (h2 : SlF w lo2 hi2 s) (u : UpdR lo2 hi2 w w') : SlF w' lo hi s := by
  obtain ⟨b, off, h0, hR, h3⟩ := h
  obtain ⟨b', off', g0, gR, _⟩ := h2
  refine ⟨b, off, h0, ⟨hR.len, hR.adr, fun hn => Nat.lt_of_lt_of_le (hR.old hn) u.size, fun i hi => ?_⟩, h3⟩
  have e : b = b' := by
    have e1 := hR.adr (by omega)
    have e2 := gR.adr (by omega)
    rw [e1] at e2
    cases e2
    rfl
  have c := hR.cel i hi
  unfold World.cell? at c ⊢
  rwa [u.far b (hR.old (by omega)) (by rw [e]; exact g0 (by omega))]
theorem PensF.upd2 {lo hi lo2 hi2 : Nat} {w w' : World} {a : Option Addr} {b off n : Nat} {P : List Wr} (h : PensF w lo hi a b off n P) (h2 : PensF w lo2 hi2 a b off n P) (u : UpdR lo2 hi2 w w') : PensF w' lo hi a b off n P :=
  ⟨(h2.upd u).s, h.far, fun i hi => (h.row i hi).upd2 (h2.row i hi) u⟩
end Go.Proofs.Ytbimmahlcceadaa
