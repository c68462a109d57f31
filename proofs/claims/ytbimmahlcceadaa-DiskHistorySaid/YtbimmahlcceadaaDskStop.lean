/- Stop (layer 4), and the reference's. -/
import Derived.Test.YtbimmahlcceadaaDskRun
namespace Go.Proofs.Ytbimmahlcceadaa
open Go.ChangeShapes Go.WideShapes Go.ChangeAt Go.RowKit
theorem results_dk_tmp {fn : Func} {p u : Tmp} (h : fn.results = #[.cell p 25, .tmp u]) (tmps : Array Value) (w : World) (g : Nat) (t : TypeId) (cs : Array Value) (fr : Nat × Nat)
    (hp : tmps.getD p undef = .pointer (some ⟨g, 0, none⟩)) (hg : w.heap[g]? = some (.cells cs t fr)) (hi : (Try.prog.info? 25).map (·.size) = some cs.size) (v : Value) (hv : tmps.getD u undef = v) :
    (results fn tmps).run Try.prog w = .ok (.tuple #[.agg cs, v]) w := by
  rw [results_cell_tmp h, hp, hv]
  simp [asAddr, run_loadVar_row w g t 25 cs fr _ hg Try.underlying25 rfl hi]
theorem cell4_other {w : World} {b k : Nat} {u0 u1 u2 u3 : Value} {o : Obj} (h : w.heap[k]? = some o) (hk : k ≠ b) : ((((w.setCell ⟨b, 0, none⟩ u0).setCell ⟨b, 1, none⟩ u1).setCell ⟨b, 2, none⟩ u2).setCell ⟨b, 3, none⟩ u3).heap[k]? = some o := by
  rw [heap_setCell_other _ _ _ _ hk, heap_setCell_other _ _ _ _ hk, heap_setCell_other _ _ _ _ hk, heap_setCell_other _ _ _ _ hk, h]
/-- What Stop answers. -/
def StopR (r : Bool) (sa : Option Addr) (sn sc : Nat) (pa : Option Addr) (pn pc : Nat) (st : Bool) (left : Int) (e : Ending) : Prop :=
  (r = false ∧ e = .returned (.tuple #[.agg #[.slice none 0 0, .slice none 0 0, .int .i64 0, .bool false], .int .i64 40])) ∨ (r = true ∧ (left < 0 ∨ 65536 < left) ∧ e = .returned (.tuple #[.agg #[.slice none 0 0, .slice none 0 0, .int .i64 0, .bool false], .int .i64 1])) ∨ (r = true ∧ 0 ≤ left ∧ left ≤ 65536 ∧ e = .returned (.tuple #[.agg #[.slice sa sn sc, .slice pa pn pc, .int .i64 left, .bool st], .int .i64 0]))
set_option maxHeartbeats 4000000 in
theorem stop_any (S : List Sl) (P : List Wr) (lf : Int) (st : Bool) (sa : Option Addr) (sb so sn sc : Nat) (pa : Option Addr) (pb po pn pc : Nat) (left : Int) (w : World) (hS : Secs w sa sb so sn S) (hP : Pens w pa pb po pn P) (hsn : sn ≤ 9223372036854775807) (hpn : pn ≤ 9223372036854775807) :
    Calls Try.prog 25 #[.agg #[.slice sa sn sc, .slice pa pn pc, .int .i64 lf, .bool st], .int .i64 left] w fun e w' => StopR (runB ⟨S, P, lf, st⟩) sa sn sc pa pn pc st left e ∧ Below w.heap.size w w' := by
  have HH := Lib.hid (And.intro hS hP)
  clear hS hP
  go_enter Try.func25, Try.ntmps25
  go_upto_region 1 with fail
  have hbx := blk_alloc (blk_new w (.cells #[.slice sa sn sc, .slice pa pn pc, .int .i64 lf, .bool st] 25)) (.cells #[.slice none 0 0, .slice none 0 0, .int .i64 0, .bool false] 25)
  have hbz := blkZ (W := w.alloc (.cells #[.slice sa sn sc, .slice pa pn pc, .int .i64 lf, .bool st] 25)) (o := .cells #[.slice none 0 0, .slice none 0 0, .int .i64 0, .bool false] 25) (k := w.heap.size + 1) (by simp)
  have hb0 : Below w.heap.size w ((w.alloc (.cells #[.slice sa sn sc, .slice pa pn pc, .int .i64 lf, .bool st] 25)).alloc (.cells #[.slice none 0 0, .slice none 0 0, .int .i64 0, .bool false] 25)) := ((Below.refl _ _).alloc (Nat.le_refl _) _).alloc (by simp) _
  have hlt := blk_lt hbx
  have hlz := blk_lt hbz
  generalize (w.alloc (.cells #[.slice sa sn sc, .slice pa pn pc, .int .i64 lf, .bool st] 25)).alloc (.cells #[.slice none 0 0, .slice none 0 0, .int .i64 0, .bool false] 25) = W1 at *
  have x0 := blk_cell hbx 0
  have x1 := blk_cell hbx 1
  have x2 := blk_cell hbx 2
  have x3 := blk_cell hbx 3
  have H1 := Lib.hid (show _ ∧ _ ∧ _ ∧ _ ∧ _ from ⟨hbx, hbz, hb0, hlt, hlz⟩)
  clear hbx hbz hb0 hlt hlz
  go_wp2_with fail
  refine (runs_any S P lf st sa sb so sn sc pa pb po pn pc W1 (HH.out.1.below H1.out.2.2.1 (Nat.le_refl _)) (HH.out.2.below H1.out.2.2.1 (Nat.le_refl _)) hsn hpn).mono ?_
  rintro e W2 ⟨rfl, hb2⟩
  have hbx := blk_below H1.out.1 hb2 H1.out.2.2.2.1
  have hbz := blk_below H1.out.2.1 hb2 H1.out.2.2.2.2
  have hb := H1.out.2.2.1.trans (hb2.mono H1.out.2.2.1.size)
  clear x0 x1 x2 x3 hb2 H1
  have x0 := blk_cell hbx 0
  have x1 := blk_cell hbx 1
  have x2 := blk_cell hbx 2
  have x3 := blk_cell hbx 3
  have z0 := blk_cell hbz 0
  have z1 := blk_cell hbz 1
  have z2 := blk_cell hbz 2
  have z3 := blk_cell hbz 3
  have f0 := blk_free hbz 0
  have f1 := blk_free hbz 1
  have f2 := blk_free hbz 2
  have f3 := blk_free hbz 3
  have H2 := Lib.hid (show _ ∧ _ ∧ _ from ⟨hbx, hbz, hb⟩)
  clear hbx hbz hb
  by_cases hr : runB ⟨S, P, lf, st⟩ = true
  · have HR := Lib.hid hr
    rw [hr]
    clear hr
    by_cases c0 : left < 0
    ·
      have HC := Lib.hid c0
      go_wp2
      refine bodyPost_ret (v := .tuple #[.agg #[.slice none 0 0, .slice none 0 0, .int .i64 0, .bool false], .int .i64 1]) ?_ rfl ⟨.inr (.inl ⟨HR.out, .inl HC.out, rfl⟩), cell4_below (show w.heap.size ≤ w.heap.size + 1 by omega) H2.out.2.2⟩
      exact results_dk_tmp Try.results25 _ _ (w.heap.size + 1) 25 #[.slice none 0 0, .slice none 0 0, .int .i64 0, .bool false] (0, 0) rfl (cell4_set H2.out.2.1) (by kernel_rfl) _ rfl
    by_cases c1 : 65536 < left
    ·
      have HC := Lib.hid c1
      go_wp2
      refine bodyPost_ret (v := .tuple #[.agg #[.slice none 0 0, .slice none 0 0, .int .i64 0, .bool false], .int .i64 1]) ?_ rfl ⟨.inr (.inl ⟨HR.out, .inr HC.out, rfl⟩), cell4_below (show w.heap.size ≤ w.heap.size + 1 by omega) H2.out.2.2⟩
      exact results_dk_tmp Try.results25 _ _ (w.heap.size + 1) 25 #[.slice none 0 0, .slice none 0 0, .int .i64 0, .bool false] (0, 0) rfl (cell4_set H2.out.2.1) (by kernel_rfl) _ rfl
    have HC := Lib.hid (show 0 ≤ left ∧ left ≤ 65536 by omega)
    go_upto_region 6 with fail
    have hz3 := cell4_set (u0 := .slice sa sn sc) (u1 := .slice pa pn pc) (u2 := .int .i64 lf) (u3 := .bool st) H2.out.2.1
    have hb3 := cell4_below (u0 := .slice sa sn sc) (u1 := .slice pa pn pc) (u2 := .int .i64 lf) (u3 := .bool st) (show w.heap.size ≤ w.heap.size + 1 by omega) H2.out.2.2
    generalize (((W2.setCell ⟨w.heap.size + 1, 0, none⟩ (.slice sa sn sc)).setCell ⟨w.heap.size + 1, 1, none⟩ (.slice pa pn pc)).setCell ⟨w.heap.size + 1, 2, none⟩ (.int .i64 lf)).setCell ⟨w.heap.size + 1, 3, none⟩ (.bool st) = W3 at *
    clear z0 z1 z2 z3 f0 f1 f2 f3 x0 x1 x2 x3
    have z0 := blk_cell hz3 0
    have f0 := blk_free hz3 0
    have z1 := blk_cell hz3 1
    have f1 := blk_free hz3 1
    have z2 := blk_cell hz3 2
    have f2 := blk_free hz3 2
    have z3 := blk_cell hz3 3
    have f3 := blk_free hz3 3
    have H3 := Lib.hid (show _ ∧ _ from ⟨hz3, hb3⟩)
    clear hz3 hb3
    go_upto_region 7 with fail
    have hz4 : (W3.setCell ⟨w.heap.size + 1, 2, none⟩ (.int .i64 left)).heap[w.heap.size + 1]? = some (.cells #[.slice sa sn sc, .slice pa pn pc, .int .i64 left, .bool st] 25 (0, 0)) := cells_setU H3.out.1
    have hb4 := H3.out.2.setCell (p := ⟨w.heap.size + 1, 2, none⟩) (show w.heap.size ≤ w.heap.size + 1 by omega) (.int .i64 left)
    generalize W3.setCell ⟨w.heap.size + 1, 2, none⟩ (.int .i64 left) = W4 at *
    clear z0 z1 z2 z3 f0 f1 f2 f3
    have z0 := blk_cell hz4 0
    have f0 := blk_free hz4 0
    have z1 := blk_cell hz4 1
    have f1 := blk_free hz4 1
    have z2 := blk_cell hz4 2
    have f2 := blk_free hz4 2
    have z3 := blk_cell hz4 3
    have f3 := blk_free hz4 3
    have H4 := Lib.hid (show _ ∧ _ from ⟨hz4, hb4⟩)
    clear hz4 hb4
    go_wp2
    refine bodyPost_ret (v := .tuple #[.agg #[.slice sa sn sc, .slice pa pn pc, .int .i64 left, .bool st], .int .i64 0]) ?_ rfl ⟨.inr (.inr ⟨HR.out, HC.out.1, HC.out.2, rfl⟩), cell4_below (show w.heap.size ≤ w.heap.size + 1 by omega) H4.out.2⟩
    exact results_dk_tmp Try.results25 _ _ (w.heap.size + 1) 25 #[.slice sa sn sc, .slice pa pn pc, .int .i64 left, .bool st] (0, 0) rfl (cell4_set H4.out.1) (by kernel_rfl) _ rfl
  · have HR := Lib.hid (show runB ⟨S, P, lf, st⟩ = false by simpa using hr)
    rw [HR.out]
    clear hr
    go_wp2
    refine bodyPost_ret (v := .tuple #[.agg #[.slice none 0 0, .slice none 0 0, .int .i64 0, .bool false], .int .i64 40]) ?_ rfl ⟨.inl ⟨HR.out, rfl⟩, cell4_below (show w.heap.size ≤ w.heap.size + 1 by omega) H2.out.2.2⟩
    exact results_dk_tmp Try.results25 _ _ (w.heap.size + 1) 25 #[.slice none 0 0, .slice none 0 0, .int .i64 0, .bool false] (0, 0) rfl (cell4_set H2.out.2.1) (by kernel_rfl) _ rfl
set_option maxHeartbeats 4000000 in
theorem rstop_any (S : List Sl) (P : List Wr) (lf : Int) (st : Bool) (sa : Option Addr) (sb so sn sc : Nat) (pa : Option Addr) (pb po pn pc : Nat) (left : Int) (w : World) (hS : Secs w sa sb so sn S) (hP : Pens w pa pb po pn P) (hsn : sn ≤ 9223372036854775807) (hpn : pn ≤ 9223372036854775807) :
    Calls Try.prog 26 #[.agg #[.slice sa sn sc, .slice pa pn pc, .int .i64 lf, .bool st], .int .i64 left] w fun e w' => StopR (runB ⟨S, P, lf, st⟩) sa sn sc pa pn pc st left e ∧ Below w.heap.size w w' := by
  have HH := Lib.hid (And.intro hS hP)
  clear hS hP
  go_enter Try.func26, Try.ntmps26
  go_upto_region 1 with fail
  have hbx := blk_alloc (blk_new w (.cells #[.slice sa sn sc, .slice pa pn pc, .int .i64 lf, .bool st] 25)) (.cells #[.slice none 0 0, .slice none 0 0, .int .i64 0, .bool false] 25)
  have hbz := blkZ (W := w.alloc (.cells #[.slice sa sn sc, .slice pa pn pc, .int .i64 lf, .bool st] 25)) (o := .cells #[.slice none 0 0, .slice none 0 0, .int .i64 0, .bool false] 25) (k := w.heap.size + 1) (by simp)
  have hb0 : Below w.heap.size w ((w.alloc (.cells #[.slice sa sn sc, .slice pa pn pc, .int .i64 lf, .bool st] 25)).alloc (.cells #[.slice none 0 0, .slice none 0 0, .int .i64 0, .bool false] 25)) := ((Below.refl _ _).alloc (Nat.le_refl _) _).alloc (by simp) _
  have hlt := blk_lt hbx
  have hlz := blk_lt hbz
  generalize (w.alloc (.cells #[.slice sa sn sc, .slice pa pn pc, .int .i64 lf, .bool st] 25)).alloc (.cells #[.slice none 0 0, .slice none 0 0, .int .i64 0, .bool false] 25) = W1 at *
  have x0 := blk_cell hbx 0
  have x1 := blk_cell hbx 1
  have x2 := blk_cell hbx 2
  have x3 := blk_cell hbx 3
  have H1 := Lib.hid (show _ ∧ _ ∧ _ ∧ _ ∧ _ from ⟨hbx, hbz, hb0, hlt, hlz⟩)
  clear hbx hbz hb0 hlt hlz
  go_wp2_with fail
  refine (rcheck_any S P lf st sa sb so sn sc pa pb po pn pc W1 (HH.out.1.below H1.out.2.2.1 (Nat.le_refl _)) (HH.out.2.below H1.out.2.2.1 (Nat.le_refl _)) hsn hpn).mono ?_
  rintro e W2 ⟨rfl, hb2⟩
  have hbx := blk_below H1.out.1 hb2 H1.out.2.2.2.1
  have hbz := blk_below H1.out.2.1 hb2 H1.out.2.2.2.2
  have hb := H1.out.2.2.1.trans (hb2.mono H1.out.2.2.1.size)
  clear x0 x1 x2 x3 hb2 H1
  have x0 := blk_cell hbx 0
  have x1 := blk_cell hbx 1
  have x2 := blk_cell hbx 2
  have x3 := blk_cell hbx 3
  have z0 := blk_cell hbz 0
  have z1 := blk_cell hbz 1
  have z2 := blk_cell hbz 2
  have z3 := blk_cell hbz 3
  have f0 := blk_free hbz 0
  have f1 := blk_free hbz 1
  have f2 := blk_free hbz 2
  have f3 := blk_free hbz 3
  have g2 := blk_free hbx 2
  have H2 := Lib.hid (show _ ∧ _ ∧ _ from ⟨hbx, hbz, hb⟩)
  clear hbx hbz hb
  by_cases hr : Valid ⟨S, P, lf, st⟩ ∧ st = false
  · have HR := Lib.hid (runB_t hr.1 hr.2)
    rw [chkE_ok hr.1]
    obtain ⟨-, rfl⟩ := hr
    by_cases c0 : left < 0
    ·
      have HC := Lib.hid c0
      go_wp2
      refine bodyPost_ret (v := .tuple #[.agg #[.slice none 0 0, .slice none 0 0, .int .i64 0, .bool false], .int .i64 1]) ?_ rfl ⟨.inr (.inl ⟨HR.out, .inl HC.out, rfl⟩), cell4_below (show w.heap.size ≤ w.heap.size + 1 by omega) H2.out.2.2⟩
      exact results_dk_tmp Try.results26 _ _ (w.heap.size + 1) 25 #[.slice none 0 0, .slice none 0 0, .int .i64 0, .bool false] (0, 0) rfl (cell4_set H2.out.2.1) (by kernel_rfl) _ rfl
    by_cases c1 : 65536 < left
    ·
      have HC := Lib.hid c1
      go_wp2
      refine bodyPost_ret (v := .tuple #[.agg #[.slice none 0 0, .slice none 0 0, .int .i64 0, .bool false], .int .i64 1]) ?_ rfl ⟨.inr (.inl ⟨HR.out, .inr HC.out, rfl⟩), cell4_below (show w.heap.size ≤ w.heap.size + 1 by omega) H2.out.2.2⟩
      exact results_dk_tmp Try.results26 _ _ (w.heap.size + 1) 25 #[.slice none 0 0, .slice none 0 0, .int .i64 0, .bool false] (0, 0) rfl (cell4_set H2.out.2.1) (by kernel_rfl) _ rfl
    have HC := Lib.hid (show 0 ≤ left ∧ left ≤ 65536 by omega)
    go_upto_region 6 with fail
    have hx3 : (W2.setCell ⟨w.heap.size, 2, none⟩ (.int .i64 left)).heap[w.heap.size]? = some (.cells #[.slice sa sn sc, .slice pa pn pc, .int .i64 left, .bool false] 25 (0, 0)) := cells_setU H2.out.1
    have hz3 : (W2.setCell ⟨w.heap.size, 2, none⟩ (.int .i64 left)).heap[w.heap.size + 1]? = some (.cells #[.slice none 0 0, .slice none 0 0, .int .i64 0, .bool false] 25 (0, 0)) := (heap_setCell_other _ _ _ _ (show w.heap.size + 1 ≠ w.heap.size by omega)).trans H2.out.2.1
    have hb3 := H2.out.2.2.setCell (p := ⟨w.heap.size, 2, none⟩) (Nat.le_refl _) (.int .i64 left)
    generalize W2.setCell ⟨w.heap.size, 2, none⟩ (.int .i64 left) = W3 at *
    clear z0 z1 z2 z3 f0 f1 f2 f3 x0 x1 x2 x3
    have x0 := blk_cell hx3 0
    have f0 := blk_free hz3 0
    have z0 := blk_cell hz3 0
    have x1 := blk_cell hx3 1
    have f1 := blk_free hz3 1
    have z1 := blk_cell hz3 1
    have x2 := blk_cell hx3 2
    have f2 := blk_free hz3 2
    have z2 := blk_cell hz3 2
    have x3 := blk_cell hx3 3
    have f3 := blk_free hz3 3
    have z3 := blk_cell hz3 3
    have H4 := Lib.hid (show _ ∧ _ from ⟨hz3, hb3⟩)
    clear hz3 hb3 hx3
    go_wp2
    refine bodyPost_ret (v := .tuple #[.agg #[.slice sa sn sc, .slice pa pn pc, .int .i64 left, .bool false], .int .i64 0]) ?_ rfl ⟨.inr (.inr ⟨HR.out, HC.out.1, HC.out.2, rfl⟩), cell4_below (show w.heap.size ≤ w.heap.size + 1 by omega) H4.out.2⟩
    exact results_dk_tmp Try.results26 _ _ (w.heap.size + 1) 25 #[.slice sa sn sc, .slice pa pn pc, .int .i64 left, .bool false] (0, 0) rfl (cell4_set H4.out.1) (by kernel_rfl) _ rfl
  · have HR := Lib.hid (runB_f hr)
    by_cases hv : Valid ⟨S, P, lf, st⟩
    · rw [chkE_ok hv]
      obtain rfl : st = true := by cases st; exact absurd ⟨hv, rfl⟩ hr; rfl
      clear hv hr
      go_wp2
      refine bodyPost_ret (v := .tuple #[.agg #[.slice none 0 0, .slice none 0 0, .int .i64 0, .bool false], .int .i64 40]) ?_ rfl ⟨.inl ⟨HR.out, rfl⟩, cell4_below (show w.heap.size ≤ w.heap.size + 1 by omega) H2.out.2.2⟩
      exact results_dk_tmp Try.results26 _ _ (w.heap.size + 1) 25 #[.slice none 0 0, .slice none 0 0, .int .i64 0, .bool false] (0, 0) rfl (cell4_set H2.out.2.1) (by kernel_rfl) _ rfl
    · rw [chkE_bad hv]
      clear hv hr
      go_wp2
      refine bodyPost_ret (v := .tuple #[.agg #[.slice none 0 0, .slice none 0 0, .int .i64 0, .bool false], .int .i64 40]) ?_ rfl ⟨.inl ⟨HR.out, rfl⟩, cell4_below (show w.heap.size ≤ w.heap.size + 1 by omega) H2.out.2.2⟩
      exact results_dk_tmp Try.results26 _ _ (w.heap.size + 1) 25 #[.slice none 0 0, .slice none 0 0, .int .i64 0, .bool false] (0, 0) rfl (cell4_set H2.out.2.1) (by kernel_rfl) _ rfl
end Go.Proofs.Ytbimmahlcceadaa
