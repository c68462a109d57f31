/- The round keys that the program's text lays (layer 2). -/
import Derived.Test.YthbjjfblapfjdaaDoorDigAbs
import Derived.Test.YthbjjfblapfjdaaDoorRows
import Derived.ProofKit
import Derived.LaidMore
import Derived.OpenShut
import Derived.Stop.Joined
namespace Go.Proofs.YthbjjfblapfjdaaDoor
open Go.ChangeShapes Go.WideShapes Go.ChangeAt Go.RowKit

abbrev laidK : List (String × DataW Unit) := [("soundpost/digest.roundKeys", Rows.laid_soundpost_digest_roundKeys)]
theorem gKeys : Tryd.prog.globalNamed "soundpost/digest.roundKeys" = some 0 := by kernel_rfl
theorem tKeys : (Tryd.prog.globals[0]?).map (·.type) = some 63 := by kernel_rfl
theorem door_met (os : Os) (args : Array Value) : laidMetH Tryd.prog (laidK) ((World.doorLaid Tryd.prog 400 os).forCall (fun _ _ => 0) ⟨#[], args, []⟩).memory :=
  laidMetH_of_parts3 (fuel := 8) (laidMet_of_run' 8 (by kernel_rfl) (by kernel_rfl)) (by kernel_rfl) (by kernel_rfl)
theorem keys_data : (Rows.laid_soundpost_digest_roundKeys : DataW Unit) = .agg (keyL.map fun k => .lit (.int .u32 k)) := rfl
theorem keyL_len : keyL.length = 64 := rfl
theorem of_laid {W : World} (h : laidMetH Tryd.prog (laidK) W) : Keys W := by
  rw [MakeChecks.laidMetH_plain _ _ _ (by kernel_rfl)] at h
  obtain ⟨ps, ⟨g0, t0, cs0, f0, p0, q0, hg0, ht0, hv0, hd0, _, _⟩, _, _⟩ := h
  obtain rfl := Option.some.inj (gKeys.symm.trans hg0)
  obtain rfl := Option.some.inj (tKeys.symm.trans ht0)
  obtain ⟨xs, m1, rfl, hx1, hlen, hn3, hel⟩ := DataW.trod_array Tryd.underlying63 hd0
  have c1 : Tryd.prog.cellsOf 50 = 1 := by kernel_rfl
  simp only [Prod.mk.injEq] at hx1
  have hx := hx1.1
  rw [keys_data] at hx
  injection hx with hx
  have hcell : ∀ t, t < 64 → W.cell? ⟨0, t, none⟩ = some (.int .u32 (kAt t)) := by
    intro t ht
    have h0 := hel t ht
    have hxt : t < xs.length := by rw [hn3]; exact ht
    rw [List.getElem?_eq_getElem hxt] at h0
    obtain ⟨k, e1, e2, _⟩ := DataW.trod_int Tryd.underlying50 h0
    have e3 : (keyL.map fun k => (DataW.lit (.int .u32 k) : DataW Unit))[t]? = (xs.map (·.1))[t]? := by rw [hx]
    rw [List.getElem?_map, List.getElem?_map, List.getElem?_eq_getElem hxt, List.getElem?_eq_getElem (show t < keyL.length from ht)] at e3
    have e4 : k = kAt t := by
      simp only [Option.map_some, Option.some.injEq] at e3
      rw [e2] at e3
      injection e3 with e3
      injection e3 with _ e3
      unfold kAt
      rw [List.getD_eq_getElem?_getD, List.getElem?_eq_getElem (show t < keyL.length from ht)]
      exact e3.symm
    subst e4
    rw [World.var?_cell hg0 hv0 t]
    rw [c1, Nat.mul_one] at e1
    obtain ⟨l1⟩ := cs0
    have : (l1.drop t)[0]? = some (.int .u32 (kAt t)) := by
      have := congrArg (·[0]?) e1
      simpa [List.getElem?_take] using this
    simpa [List.getElem?_drop] using this
  exact ⟨Nat.lt_of_le_of_lt (Nat.zero_le _) (World.block_lt_of_cell? W ⟨0, 0, none⟩ (hcell 0 (by decide))), hcell⟩
end Go.Proofs.YthbjjfblapfjdaaDoor
