/- holds (layer 4). -/
import Derived.Test.YtbimmahlcceadaaDskMath
import Derived.Test.YtbimmahlcceadaaDskOk
import Derived.Test.YtbimmahlcceadaaDskDbl
namespace Go.Proofs.Ytbimmahlcceadaa
open Go.ChangeShapes Go.WideShapes Go.ChangeAt Go.RowKit
/-- A sector whose halves begin with two bytes. -/
def halfL (a b : Int) : List Int := (z128.set 0 a).set 64 b
theorem halfL_len (a b : Int) : (halfL a b).length = 128 := by unfold halfL; rw [List.length_set, List.length_set, z128_len]
theorem dbl_half (c : Int) : dblL c = halfL c c := rfl
theorem half_0 (a b : Int) : (halfL a b).getD 0 0 = a := by simp [halfL, List.getD_eq_getElem?_getD, z128]
theorem half_64 (a b : Int) : (halfL a b).getD 64 0 = b := by simp [halfL, List.getD_eq_getElem?_getD, z128]
theorem half_1 (a b : Int) : (halfL a b).getD 1 0 = 0 := by simp [halfL, List.getD_eq_getElem?_getD, z128]
theorem half_127 (a b : Int) : (halfL a b).getD 127 0 = 0 := by simp [halfL, List.getD_eq_getElem?_getD, z128]
theorem rdK_row' {P : List Wr} {a : Int} {b : Sl} (Q : Sl → Prop) (hb : Q b) : ∀ k, (∀ j, j < k → Q (nW P j).2) → Q (rdK P a b k)
  | 0, _ => hb
  | k + 1, h => by
    unfold rdK
    split
    · exact h k (by omega)
    · exact rdK_row' Q hb k (fun j hj => h j (by omega))
set_option maxRecDepth 100000 in
set_option maxHeartbeats 4000000 in
theorem holds_any (S : List Sl) (P : List Wr) (lf : Int) (sa : Option Addr) (sb so sc : Nat) (pa : Option Addr) (pb po pn pc : Nat) (f s : List Int) (w : World) (hS : Secs w sa sb so 4 S) (hP : Pens w pa pb po pn P) (hpn : pn ≤ 9223372036854775807) (hf : f.length = 4) (hs : s.length = 4) (hr : runB ⟨S, P, lf, false⟩ = true) (hc : ∀ i : Nat, i < 4 → (rdK P (i : Int) (nS S i) pn).2.2 = halfL (f.getD i 0) (s.getD i 0)) :
    Calls Try.prog 28 #[.agg #[.slice sa 4 sc, .slice pa pn pc, .int .i64 lf, .bool false], .agg (bV f), .agg (bV s)] w fun e w' => e = .returned (.bool true) ∧ Below w.heap.size w w' := by
  have HA := Lib.hid (show _ ∧ _ ∧ _ ∧ _ from ⟨hS, hP, hr, hc⟩)
  have HL := Lib.hid (And.intro hf hs)
  clear hS hP hr hc hf hs
  go_enter Try.func28, Try.ntmps28
  go_upto_region 1 with fail
  have hb1 := blk_alloc (blk_alloc (blk_new w (.cells #[.slice sa 4 sc, .slice pa pn pc, .int .i64 lf, .bool false] 25)) (.cells (bV f) 44)) (.cells (bV s) 44)
  have hb2 := blk_alloc (blkZ (W := w.alloc (.cells #[.slice sa 4 sc, .slice pa pn pc, .int .i64 lf, .bool false] 25)) (o := .cells (bV f) 44) (k := w.heap.size + 1) (by simp)) (.cells (bV s) 44)
  have hb3 := blkZ (W := (w.alloc (.cells #[.slice sa 4 sc, .slice pa pn pc, .int .i64 lf, .bool false] 25)).alloc (.cells (bV f) 44)) (o := .cells (bV s) 44) (k := w.heap.size + 2) (by simp)
  have hB : Below w.heap.size w (((w.alloc (.cells #[.slice sa 4 sc, .slice pa pn pc, .int .i64 lf, .bool false] 25)).alloc (.cells (bV f) 44)).alloc (.cells (bV s) 44)) := (((Below.refl _ _).alloc (Nat.le_refl _) _).alloc (by simp) _).alloc (by simp; omega) _
  generalize ((w.alloc (.cells #[.slice sa 4 sc, .slice pa pn pc, .int .i64 lf, .bool false] 25)).alloc (.cells (bV f) 44)).alloc (.cells (bV s) 44) = W1 at *
  have H1 := Lib.hid (show _ ∧ _ ∧ _ ∧ _ from ⟨hb1, hb2, hb3, hB⟩)
  clear hb1 hb2 hb3 hB
  go_wp2_with fail
  go_loopw [7] (fun v wr => ∃ k : Nat, k ≤ 4 ∧ v = .int .i64 k ∧ Hid (Below W1.heap.size W1 wr)) (fun v _ => 4 - (intOf v).toNat)
  case atStart => exact ⟨0, Nat.zero_le _, rfl, Lib.hid (Below.refl _ _)⟩
  case round =>
    obtain ⟨k, hk, rfl, HR⟩ := hrel
    by_cases hk4 : k < 4
    · have j1 : (k : Int) < 4 := by omega
      have j2 : ¬ (k : Int) < 0 := by omega
      have u1 : IntKind.i64.wrap ((k : Int) + 1) = ((k + 1 : Nat) : Int) := (wrap_id (by omega)).trans (by omega)
      have hw := H1.out.2.2.2.trans (HR.out.mono H1.out.2.2.2.size)
      have hd := blk_below H1.out.1 HR.out (blk_lt H1.out.1)
      have x0 := blk_cell hd 0
      have x1 := blk_cell hd 1
      have x2 := blk_cell hd 2
      have x3 := blk_cell hd 3
      obtain ⟨Y, hY⟩ : ∃ Y, rdK P (k : Int) (nS S k) pn = Y := ⟨_, rfl⟩
      have hYc := HA.out.2.2.2 k hk4
      rw [hY] at hYc
      have hYl : Y.2.2.length = 128 := by rw [hYc]; exact halfL_len _ _
      have hYr : SlR w Y := by rw [← hY]; exact rdK_row' (SlR w) (HA.out.1.row _ hk4) pn (fun j hj => HA.out.2.1.row j hj)
      have HY := Lib.hid (show _ ∧ _ ∧ _ ∧ _ ∧ _ from ⟨hY, hYc, hYr, hw, hk4⟩)
      clear hY hYc hYr hw hd hk hk4
      go_wp2_with fail
      clear x0 x1 x2 x3
      refine (read_ok S P lf sa sb so 4 sc pa pb po pn pc (k : Int) wr (HA.out.1.below HY.out.2.2.2.1 (Nat.le_refl _)) (HA.out.2.1.below HY.out.2.2.2.1 (Nat.le_refl _)) (by omega) hpn HA.out.2.2.1 (by omega) (by omega) Y HY.out.1 128 hYl).mono ?_
      rintro e W2 ⟨rfl, hb2⟩
      have hw2 := below_after HR.out hb2 HR.out.size
      have hs2 := blk_below H1.out.2.1 hw2 (blk_lt H1.out.2.1)
      have hs3 := blk_below H1.out.2.2.1 hw2 (blk_lt H1.out.2.2.1)
      have hYr2 := HY.out.2.2.1.below (H1.out.2.2.2.trans (hw2.mono H1.out.2.2.2.size)) (Nat.le_refl _)
      obtain ⟨yb, yo, hya, -, hyc⟩ := hYr2.cells (by omega)
      have c0 := hyc 0 (by omega)
      have c64 := hyc 64 (by omega)
      have c1 := hyc 1 (by omega)
      have c127 := hyc 127 (by omega)
      rw [HY.out.2.1] at c0 c64 c1 c127
      rw [half_0] at c0
      rw [half_64] at c64
      rw [half_1] at c1
      rw [half_127] at c127
      have c0' : W2.cell? ⟨yb, yo, none⟩ = some (.int .u8 (f.getD k 0)) := c0
      have d1 := (blk_cell hs2 k).trans (bV_get (L := f) (by have := HL.out.1; have := HY.out.2.2.2.2; omega))
      have d2 := (blk_cell hs3 k).trans (bV_get (L := s) (by have := HL.out.2; have := HY.out.2.2.2.2; omega))
      have HW2 := Lib.hid hw2
      clear hyc hYr2 hs2 hs3 hw2 hb2 c0
      generalize f.getD k 0 = F at *
      generalize s.getD k 0 = G at *
      go_wp2_with fail
      go_quiet (fail)
      go_wp2
      go_roundw
      case rel => exact ⟨k + 1, HY.out.2.2.2.2, by go_num, Lib.hid (below_drewN HW2.out)⟩
      case measure => have := HY.out.2.2.2.2; simp [intOf]; omega
    · obtain rfl : k = 4 := by omega
      have j1 : ¬ ((4 : Nat) : Int) < 4 := by omega
      go_wp2
      go_ret
      exact ⟨rfl, H1.out.2.2.2.trans (HR.out.mono H1.out.2.2.2.size)⟩
end Go.Proofs.Ytbimmahlcceadaa
