/- A disk that runs, and Restart (layer 4). -/
import Derived.Test.YtbimmahlcceadaaDskRChk
namespace Go.Proofs.Ytbimmahlcceadaa
open Go.ChangeShapes Go.WideShapes Go.ChangeAt Go.RowKit
noncomputable def runB (d : Dk) : Bool := @decide (Valid d ∧ d.stp = false) (Classical.propDecidable _)
theorem runB_t {d : Dk} (h : Valid d) (hs : d.stp = false) : runB d = true := @decide_eq_true _ (Classical.propDecidable _) ⟨h, hs⟩
theorem runB_f {d : Dk} (h : ¬ (Valid d ∧ d.stp = false)) : runB d = false := @decide_eq_false _ (Classical.propDecidable _) h
theorem cell4_set {w : World} {b : Nat} {x0 x1 x2 x3 u0 u1 u2 u3 : Value} {t : TypeId} (h : w.heap[b]? = some (.cells #[x0, x1, x2, x3] t (0, 0))) : ((((w.setCell ⟨b, 0, none⟩ u0).setCell ⟨b, 1, none⟩ u1).setCell ⟨b, 2, none⟩ u2).setCell ⟨b, 3, none⟩ u3).heap[b]? = some (.cells #[u0, u1, u2, u3] t (0, 0)) := cells_setU (cells_setU (cells_setU (cells_setU h)))
theorem cell4_below {B b : Nat} {a w : World} {u0 u1 u2 u3 : Value} (hb : B ≤ b) (h : Below B a w) : Below B a ((((w.setCell ⟨b, 0, none⟩ u0).setCell ⟨b, 1, none⟩ u1).setCell ⟨b, 2, none⟩ u2).setCell ⟨b, 3, none⟩ u3) := (((h.setCell (p := ⟨b, 0, none⟩) hb _).setCell (p := ⟨b, 1, none⟩) hb _).setCell (p := ⟨b, 2, none⟩) hb _).setCell (p := ⟨b, 3, none⟩) hb _
/-- Does it run? -/
theorem runs_any (S : List Sl) (P : List Wr) (lf : Int) (st : Bool) (sa : Option Addr) (sb so sn sc : Nat) (pa : Option Addr) (pb po pn pc : Nat) (w : World) (hS : Secs w sa sb so sn S) (hP : Pens w pa pb po pn P) (hsn : sn ≤ 9223372036854775807) (hpn : pn ≤ 9223372036854775807) :
    Calls Try.prog 30 #[.agg #[.slice sa sn sc, .slice pa pn pc, .int .i64 lf, .bool st]] w fun e w' => e = .returned (.bool (runB ⟨S, P, lf, st⟩)) ∧ Below w.heap.size w w' := by
  have HH := Lib.hid (And.intro hS hP)
  clear hS hP
  go_enter Try.func30, Try.ntmps30
  go_upto_region 1 with fail
  have hb0 : Below w.heap.size w (w.alloc (.cells #[.slice sa sn sc, .slice pa pn pc, .int .i64 lf, .bool st] 25)) := (Below.refl _ _).alloc (Nat.le_refl _) _
  have hbx := blk_new w (.cells #[.slice sa sn sc, .slice pa pn pc, .int .i64 lf, .bool st] 25)
  have hlt := blk_lt hbx
  generalize w.alloc (.cells #[.slice sa sn sc, .slice pa pn pc, .int .i64 lf, .bool st] 25) = W1 at *
  have x0 := blk_cell hbx 0
  have x1 := blk_cell hbx 1
  have x2 := blk_cell hbx 2
  have x3 := blk_cell hbx 3
  have HB := Lib.hid (And.intro hb0 (And.intro hbx hlt))
  clear hb0 hbx hlt
  go_wp2_with fail
  refine (check_any S P lf st sa sb so sn sc pa pb po pn pc W1 (HH.out.1.below HB.out.1 (Nat.le_refl _)) (HH.out.2.below HB.out.1 (Nat.le_refl _)) hsn hpn).mono ?_
  rintro e W2 ⟨rfl, hb2⟩
  have y3 := blk_cell (blk_below HB.out.2.1 hb2 HB.out.2.2) 3
  clear x0 x1 x2 x3
  have H2 := Lib.hid (HB.out.1.trans (hb2.mono HB.out.1.size))
  clear hb2
  by_cases hv : Valid ⟨S, P, lf, st⟩
  · rw [chkE_ok hv]
    have HV := Lib.hid hv
    clear hv
    cases st
    · go_wp2
      go_ret
      exact ⟨by rw [runB_t HV.out rfl]; rfl, H2.out⟩
    · go_wp2
      go_ret
      exact ⟨by rw [runB_f (by simp)]; rfl, H2.out⟩
  · rw [chkE_bad hv]
    have HV := Lib.hid hv
    clear hv
    go_wp2
    go_ret
    exact ⟨by rw [runB_f (fun h => HV.out h.1)]; rfl, H2.out⟩
theorem blkZ {W : World} {o : Obj} {k : Nat} (h : k = W.heap.size) : (W.alloc o).heap[k]? = some o := by subst h; exact blk_new _ _
/-- Restart. -/
theorem restart_any (sa : Option Addr) (sn sc : Nat) (pa : Option Addr) (pn pc : Nat) (lf : Int) (st : Bool) (w : World) :
    Calls Try.prog 17 #[.agg #[.slice sa sn sc, .slice pa pn pc, .int .i64 lf, .bool st]] w fun e w' => e = .returned (.agg #[.slice sa sn sc, .slice none 0 0, .int .i64 (-1), .bool false]) ∧ Below w.heap.size w w' := by
  go_enter Try.func17, Try.ntmps17
  go_upto_region 1 with fail
  have hbx := blk_alloc (blk_new w (.cells #[.slice sa sn sc, .slice pa pn pc, .int .i64 lf, .bool st] 25)) (.cells #[.slice none 0 0, .slice none 0 0, .int .i64 0, .bool false] 25)
  have hbz := blkZ (W := w.alloc (.cells #[.slice sa sn sc, .slice pa pn pc, .int .i64 lf, .bool st] 25)) (o := .cells #[.slice none 0 0, .slice none 0 0, .int .i64 0, .bool false] 25) (k := w.heap.size + 1) (by simp)
  have hb0 : Below w.heap.size w ((w.alloc (.cells #[.slice sa sn sc, .slice pa pn pc, .int .i64 lf, .bool st] 25)).alloc (.cells #[.slice none 0 0, .slice none 0 0, .int .i64 0, .bool false] 25)) := ((Below.refl _ _).alloc (Nat.le_refl _) _).alloc (by simp) _
  have hlt := blk_lt hbx
  have hlz := blk_lt hbz
  generalize (w.alloc (.cells #[.slice sa sn sc, .slice pa pn pc, .int .i64 lf, .bool st] 25)).alloc (.cells #[.slice none 0 0, .slice none 0 0, .int .i64 0, .bool false] 25) = W1 at *
  have x0 := blk_cell hbx 0
  have z0 := blk_cell hbz 0
  have z1 := blk_cell hbz 1
  have z2 := blk_cell hbz 2
  have z3 := blk_cell hbz 3
  have f0 := blk_free hbz 0
  have f1 := blk_free hbz 1
  have f2 := blk_free hbz 2
  have f3 := blk_free hbz 3
  have H1 := Lib.hid (show _ ∧ _ from ⟨hbz, hb0⟩)
  clear hbx hbz hb0
  go_wp2
  refine bodyPost_ret (v := .agg #[.slice sa sn sc, .slice none 0 0, .int .i64 (-1), .bool false]) ?_ rfl ⟨rfl, cell4_below (show w.heap.size ≤ w.heap.size + 1 by omega) H1.out.2⟩
  exact results_cell_row Try.results17 _ _ (w.heap.size + 1) 25 #[.slice sa sn sc, .slice none 0 0, .int .i64 (-1), .bool false] (0, 0) _ rfl (cell4_set H1.out.1) Try.underlying25 rfl (by kernel_rfl)
theorem rrestart_any (sa : Option Addr) (sn sc : Nat) (pa : Option Addr) (pn pc : Nat) (lf : Int) (st : Bool) (w : World) :
    Calls Try.prog 18 #[.agg #[.slice sa sn sc, .slice pa pn pc, .int .i64 lf, .bool st]] w fun e w' => e = .returned (.agg #[.slice sa sn sc, .slice none 0 0, .int .i64 (-1), .bool false]) ∧ Below w.heap.size w w' := by
  go_enter Try.func18, Try.ntmps18
  go_upto_region 1 with fail
  have hbx := blk_alloc (blk_new w (.cells #[.slice sa sn sc, .slice pa pn pc, .int .i64 lf, .bool st] 25)) (.cells #[.slice none 0 0, .slice none 0 0, .int .i64 0, .bool false] 25)
  have hbz := blkZ (W := w.alloc (.cells #[.slice sa sn sc, .slice pa pn pc, .int .i64 lf, .bool st] 25)) (o := .cells #[.slice none 0 0, .slice none 0 0, .int .i64 0, .bool false] 25) (k := w.heap.size + 1) (by simp)
  have hb0 : Below w.heap.size w ((w.alloc (.cells #[.slice sa sn sc, .slice pa pn pc, .int .i64 lf, .bool st] 25)).alloc (.cells #[.slice none 0 0, .slice none 0 0, .int .i64 0, .bool false] 25)) := ((Below.refl _ _).alloc (Nat.le_refl _) _).alloc (by simp) _
  have hlt := blk_lt hbx
  have hlz := blk_lt hbz
  generalize (w.alloc (.cells #[.slice sa sn sc, .slice pa pn pc, .int .i64 lf, .bool st] 25)).alloc (.cells #[.slice none 0 0, .slice none 0 0, .int .i64 0, .bool false] 25) = W1 at *
  have x0 := blk_cell hbx 0
  have z0 := blk_cell hbz 0
  have z1 := blk_cell hbz 1
  have z2 := blk_cell hbz 2
  have z3 := blk_cell hbz 3
  have f0 := blk_free hbz 0
  have f1 := blk_free hbz 1
  have f2 := blk_free hbz 2
  have f3 := blk_free hbz 3
  have H1 := Lib.hid (show _ ∧ _ from ⟨hbz, hb0⟩)
  clear hbx hbz hb0
  go_wp2
  refine bodyPost_ret (v := .agg #[.slice sa sn sc, .slice none 0 0, .int .i64 (-1), .bool false]) ?_ rfl ⟨rfl, cell4_below (show w.heap.size ≤ w.heap.size + 1 by omega) H1.out.2⟩
  exact results_cell_row Try.results18 _ _ (w.heap.size + 1) 25 #[.slice sa sn sc, .slice none 0 0, .int .i64 (-1), .bool false] (0, 0) _ rfl (cell4_set H1.out.1) Try.underlying25 rfl (by kernel_rfl)
end Go.Proofs.Ytbimmahlcceadaa
