/- The walks of the statements of layer 7. -/
import Derived.Test.YtaaoekddhgjckaaRatSane
import Derived.Deep.RegionWith
namespace Go.Proofs.Ytaaoekddhgjckaa
open Go.ChangeShapes Go.WideShapes Go.ChangeAt Go.RowKit

set_option maxRecDepth 100000 in
set_option maxHeartbeats 2000000 in
theorem rationalMakeSpec_walk (n d rn rd : Int) (w : World) :
    Calls Try.prog 3 #[.int .i64 n, .int .i64 d, .agg #[.int .i64 rn, .int .i64 rd]] w fun e w' => e = .returned (.bool true) ∧ Below w.heap.size w w' := by
  have B := Below.refl w.heap.size w
  go_enter Try.func3, Try.ntmps3
  go_wp2_with fail
  refine (sane_any _).mono ?_; rintro e w1 ⟨rfl, hb⟩
  have z1 := hb.size; simp at z1
  replace B := below_after (B.alloc (by first | omega | (simp; done) | (simp; omega)) _) hb (by first | omega | (simp; done) | (simp; omega))
  have K_r := blk_below (blk_new _ _) hb (by first | omega | (simp; done) | (simp; omega))
  replace K_r := Lib.hid K_r
  clear hb
  go_wp2_with fail
  refine (make_any _ _ _).mono ?_; rintro e w2 ⟨rfl, hb⟩
  have z2 := hb.size
  replace B := below_after B hb (by first | omega | (simp; done) | (simp; omega))
  replace K_r := Lib.hid (blk_below K_r.out hb (by first | omega | (simp; done) | (simp; omega)))
  clear hb
  go_wp2_with fail
  refine (rmake_any _ _ _).mono ?_; rintro e w3 ⟨rfl, hb⟩
  have z3 := hb.size; simp at z3
  replace B := below_after (B.alloc (by first | omega | (simp; done) | (simp; omega)) _) hb (by first | omega | (simp; done) | (simp; omega))
  replace K_r := Lib.hid (blk_below (blk_alloc K_r.out _) hb (by first | omega | (simp; done) | (simp; omega)))
  have K_x := blk_below (blk_new _ _) hb (by first | omega | (simp; done) | (simp; omega))
  replace K_x := Lib.hid K_x
  clear hb
  have l_r : w.heap.size < w3.heap.size := by omega
  have c_r_0 := blk_cell K_r.out 0; simp at c_r_0
  have c_r_1 := blk_cell K_r.out 1; simp at c_r_1
  have l_x : w2.heap.size < w3.heap.size := by omega
  have c_x_0 := blk_cell K_x.out 0; simp at c_x_0
  have c_x_1 := blk_cell K_x.out 1; simp at c_x_1
  go_wp2_with fail
  go_region_with (first | (go_at_call 13; refine (check_any _ _ _).mono ?_; rintro e wa ⟨rfl, hba⟩; have ca := (hba.cell (p := ⟨w.heap.size, 0, none⟩) (by first | omega | (simp; done) | (simp; omega))).trans ((World.cell?_alloc_past _ _ _ l_r).trans c_r_0); have cb := (hba.cell (p := ⟨w.heap.size, 1, none⟩) (by first | omega | (simp; done) | (simp; omega))).trans ((World.cell?_alloc_past _ _ _ l_r).trans c_r_1)) | (go_at_call 14; refine (rcheck_any _ _ _).mono ?_; rintro e wb ⟨rfl, hbb⟩))
  all_goals go_wp2
  all_goals go_ret
  all_goals (have zz := hba.size; simp at zz; exact ⟨rfl, below_after (below_after (B.alloc (by omega) _).drew hba (by first | omega | (simp; done) | (simp; omega))) hbb (by omega)⟩)
end Go.Proofs.Ytaaoekddhgjckaa
