/- The contract of curves.value, whole (layer 11). -/
import Derived.Test.YtmblkmllamccnaaCrvValue
namespace Go.Proofs.Ytmblkmllamccnaa
open Go.ChangeShapes Go.WideShapes Go.ChangeAt Go.RowKit Go.Shelf

def segV (k m : Kt) (at' : Int) : Int := if k.2.2.1 = 1 then k.2.1 else if k.2.2.1 = 2 then lineV k.2.1 m.2.1 (at' - k.1) (m.1 - k.1) else bendV k.2.1 m.2.1 (at' - k.1) (m.1 - k.1) k.2.2.2.1 k.2.2.2.2
def valP (l : List Kt) (at' : Int) (p : Nat) : Int := if l.length = 0 then 0 else if p = 0 then (nthK l 0).2.1 else if p = l.length then (nthK l (p - 1)).2.1 else segV (nthK l (p - 1)) (nthK l p) at'
def valC (l : List Kt) (at' : Int) : Int := valP l at' (cnt l at' l.length)

set_option maxRecDepth 100000 in
set_option maxHeartbeats 8000000 in
theorem value_any (a : Option Addr) (b off n cap : Nat) (l : List Kt) (at' : Int) (w : World) (hM : Ks w a n b off l) (hch : Curve l) :
    Calls Try.prog 45 #[.slice a n cap, .int .i64 at'] w fun e w' => e = .returned (.int .i64 (valC l at')) ∧ Below w.heap.size w w' := by
  have hl := hM.1
  obtain ⟨w0, hw0⟩ : ∃ w0, w0 = (w.alloc (.cells #[.slice a n cap] 36)).alloc (.cells #[.int .i64 at'] 3) := ⟨_, rfl⟩
  have hB0 : Below w.heap.size w w0 := by rw [hw0]; go_grown
  have k1 : w0.heap[w.heap.size]? = some (.cells #[.slice a n cap] 36 (0, 0)) := by rw [hw0]; exact blk_alloc (blk_new w _) _
  have k2 : w0.heap[w.heap.size + 1]? = some (.cells #[.int .i64 at'] 3 (0, 0)) := by
    have h := blk_new (w.alloc (.cells #[.slice a n cap] 36)) (.cells #[.int .i64 at'] 3)
    rw [World.size_alloc] at h
    rw [hw0]; exact h
  have hn : n ≤ 1024 := by rw [← hl]; exact hch.1.1
  have HM := Lib.hid (show _ ∧ _ from ⟨hM, hch⟩)
  have HW := Lib.hid (show _ ∧ _ ∧ _ ∧ _ from ⟨hw0, hB0, k1, k2⟩)
  clear hM hch hw0
  have c1 := blk_cell k1 0; have c2 := blk_cell k2 0
  simp at c1 c2
  clear k1 k2 hB0
  go_enter Try.func45, Try.ntmps45
  go_wp2_with fail
  rw [← HW.out.1]
  refine (ksearch_any w.heap.size (w.heap.size + 1) b off n cap l at' w0 HM.out.2.1 a (HM.out.1.grown HW.out.2.1) HW.out.2.2.1 HW.out.2.2.2).mono ?_
  rintro e w1 ⟨rfl, hb1⟩
  have hB1 := below_after HW.out.2.1 hb1 HW.out.2.1.size
  have k1 := blk_below HW.out.2.2.1 hb1 (Array.getElem?_eq_some_iff.1 HW.out.2.2.1).1
  have k2 := blk_below HW.out.2.2.2 hb1 (Array.getElem?_eq_some_iff.1 HW.out.2.2.2).1
  clear c1 c2
  have c1 := blk_cell k1 0; have c2 := blk_cell k2 0
  simp at c1 c2
  have hsp := cnt_sp HM.out.2.1 at' n (by omega)
  have hP := cnt_le l at' n
  have EV := Lib.hid (show valC l at' = valP l at' (cnt l at' n) by unfold valC; rw [hl])
  generalize cnt l at' n = P at *
  have HB := Lib.hid (show _ ∧ _ ∧ _ ∧ _ from ⟨hB1, k1, k2, hsp⟩)
  clear hB1 hb1 k1 k2 hsp
  by_cases hn0 : n = 0
  · subst hn0
    have e : valP l at' P = 0 := if_pos hl
    have E := Lib.hid (EV.out.trans e)
    go_wp2
    go_ret
    exact ⟨by rw [E.out]; rfl, HB.out.1⟩
  obtain ⟨rfl, hbw⟩ := HM.out.1.2.1 (by omega)
  have zn : ((n : Int) == 0) = false := by simp; omega
  by_cases hP0 : P = 0
  · subst hP0
    have e : valP l at' 0 = (nthK l 0).2.1 := (if_neg (by omega)).trans (if_pos rfl)
    have E := Lib.hid (EV.out.trans e)
    obtain ⟨_, d1, _, _, _⟩ := (HM.out.1.grown HB.out.1).2.2 0 (by omega)
    simp only [Nat.zero_mul, Nat.add_zero] at d1
    have i0 : (0 : Int) < (n : Int) := by omega
    have i00 : 0 < n := by omega
    clear e
    go_wp2
    go_ret
    exact ⟨by rw [E.out]; rfl, HB.out.1⟩
  obtain ⟨p, rfl⟩ : ∃ p, P = p + 1 := ⟨P - 1, by omega⟩
  have zp : (((p + 1 : Nat) : Int) == 0) = false := by simp; omega
  have ep : IntKind.i64.wrap (((p + 1 : Nat) : Int) - 1) = (p : Int) := by rw [wrap_id (by omega)]; omega
  have ip : (p : Int) < (n : Int) := by omega
  have ipn : p < n := by omega
  obtain ⟨d0, d1, d2, d3, d4⟩ := (HM.out.1.grown HB.out.1).2.2 p (by omega)
  by_cases hPn : p + 1 = n
  · have e : valP l at' (p + 1) = (nthK l p).2.1 := (if_neg (by omega)).trans ((if_neg (by omega)).trans ((if_pos (by omega)).trans (by rw [Nat.add_sub_cancel])))
    have E := Lib.hid (EV.out.trans e)
    have zq : (((p + 1 : Nat) : Int) == (n : Int)) = true := by simp; omega
    clear e hPn
    go_wp2
    go_ret
    exact ⟨by rw [E.out]; rfl, HB.out.1⟩
  have e : valP l at' (p + 1) = segV (nthK l p) (nthK l (p + 1)) at' := (if_neg (by omega)).trans ((if_neg (by omega)).trans ((if_neg (by omega)).trans (by rw [Nat.add_sub_cancel])))
  have E := Lib.hid (EV.out.trans e)
  have zq : (((p + 1 : Nat) : Int) == (n : Int)) = false := by simp; omega
  have iq : ((p + 1 : Nat) : Int) < (n : Int) := by omega
  have iqn : p + 1 < n := by omega
  obtain ⟨f0, f1, f2, f3, f4⟩ := (HM.out.1.grown HB.out.1).2.2 (p + 1) (by omega)
  clear e hPn
  have okp := (HM.out.2.1.2 p (by omega)).1
  have okq := (HM.out.2.1.2 (p + 1) (by omega)).1
  have hgap := HM.out.2.2 p (by omega)
  have hlt := (HM.out.2.1.2 (p + 1) (by omega)).2 (by omega)
  have hat1 := HB.out.2.2.2.1 p (by omega)
  have hat2 := HB.out.2.2.2.2 (p + 1) (Nat.le_refl _) iqn
  rw [Nat.add_sub_cancel] at hlt
  go_wp2_with fail
  generalize hx : nthK l p = x at *
  generalize hy : nthK l (p + 1) = y at *
  obtain ⟨kA, kV, kS, kW, kX⟩ := x
  obtain ⟨mA, mV, mS, mW, mX⟩ := y
  unfold okK at okp okq
  dsimp only at d0 d1 d2 d3 d4 f0 f1 f2 f3 f4 okp okq hgap hlt hat1 hat2 ⊢
  have n1 := blk_new w1 (.cells #[.int .i64 kA, .int .i64 kV, .int .i64 kS, .int .i64 kW, .int .i64 kX] 52)
  have HBW := HB.out.1.alloc HB.out.1.size (.cells #[.int .i64 kA, .int .i64 kV, .int .i64 kS, .int .i64 kW, .int .i64 kX] 52)
  generalize hW : w1.alloc (.cells #[.int .i64 kA, .int .i64 kV, .int .i64 kS, .int .i64 kW, .int .i64 kX] 52) = W at *
  have hWs : W.heap.size = w1.heap.size + 1 := by rw [← hW, World.size_alloc]
  have hw1s := HB.out.1.size
  have g1 := (Array.getElem?_eq_some_iff.1 HB.out.2.1).1
  have g2 := (Array.getElem?_eq_some_iff.1 HB.out.2.2.1).1
  have HC : ∀ w', Below W.heap.size W w' → w'.cell? ⟨w1.heap.size, 0, none⟩ = some (.int .i64 kA) ∧ w'.cell? ⟨w1.heap.size, 1, none⟩ = some (.int .i64 kV) ∧ w'.cell? ⟨w1.heap.size, 2, none⟩ = some (.int .i64 kS) ∧ w'.cell? ⟨w1.heap.size, 3, none⟩ = some (.int .i64 kW) ∧ w'.cell? ⟨w1.heap.size, 4, none⟩ = some (.int .i64 kX) ∧
      w'.cell? ⟨w.heap.size, 0, none⟩ = some (.slice (some ⟨b, off, none⟩) n cap) ∧ w'.cell? ⟨w.heap.size + 1, 0, none⟩ = some (.int .i64 at') ∧
      w'.cell? ⟨b, off + (p + 1) * 5, none⟩ = some (.int .i64 mA) ∧ w'.cell? ⟨b, off + (p + 1) * 5 + 1, none⟩ = some (.int .i64 mV) ∧ w'.cell? ⟨b, off + (p + 1) * 5 + 2, none⟩ = some (.int .i64 mS) ∧ w'.cell? ⟨b, off + (p + 1) * 5 + 3, none⟩ = some (.int .i64 mW) ∧ w'.cell? ⟨b, off + (p + 1) * 5 + 4, none⟩ = some (.int .i64 mX) := by
    intro w' s
    have m1 := blk_below n1 s (by omega)
    have hk : Below w1.heap.size w1 w' := by
      have : Below w1.heap.size w1 W := by rw [← hW]; exact (Below.refl _ _).alloc (Nat.le_refl _) _
      exact this.trans (s.mono (by omega))
    have x0 := blk_cell m1 0; have x1 := blk_cell m1 1; have x2 := blk_cell m1 2; have x3 := blk_cell m1 3; have x4 := blk_cell m1 4
    simp at x0 x1 x2 x3 x4
    have hb' : b < w1.heap.size := by omega
    exact ⟨x0, x1, x2, x3, x4, (hk.cell (p := ⟨w.heap.size, 0, none⟩) g1).trans c1, (hk.cell (p := ⟨w.heap.size + 1, 0, none⟩) g2).trans c2, (hk.cell (p := ⟨b, _, none⟩) hb').trans f0, (hk.cell (p := ⟨b, _, none⟩) hb').trans f1, (hk.cell (p := ⟨b, _, none⟩) hb').trans f2, (hk.cell (p := ⟨b, _, none⟩) hb').trans f3, (hk.cell (p := ⟨b, _, none⟩) hb').trans f4⟩
  clear d0 d1 d2 d3 d4 f0 f1 f2 f3 f4 c1 c2 n1 hW hWs
  have iq2 : (p : Int) + 1 < (n : Int) := by omega
  have hS : kS = 1 ∨ kS = 2 ∨ kS = 3 := by omega
  have HOK := Lib.hid (show _ ∧ _ ∧ _ from ⟨okp, okq, hgap⟩)
  clear okp okq hgap
  rcases hS with hS | hS | hS
  · subst hS
    refine wp_region_from 1 2 (fun w' => Below W.heap.size W w') (by kernel_rfl) (by kernel_rfl) (by decide) (by kernel_rfl) (Below.refl _ _).drew ?_
    simp only [List.drop_succ_cons, List.drop_zero, List.take_succ_cons, List.take_zero]
    refine wpHeld_cons (.pointer (some ⟨w1.heap.size, 2, none⟩)) (by kernel_rfl) ?_ ?_
    · intro w' s
      obtain ⟨x0, x1, x2, x3, x4, y1, y2, z0, z1, z2, z3, z4⟩ := HC w' s
      try go_simp
    refine wpHeld_cons (.int .i64 1) (by kernel_rfl) ?_ ?_
    · intro w' s
      obtain ⟨x0, x1, x2, x3, x4, y1, y2, z0, z1, z2, z3, z4⟩ := HC w' s
      try go_simp
    refine wpHeld_nil ?_
    go_simp
    refine wpAnyH_from 5 6 (fun _ _ _ _ _ h => h) (by kernel_rfl) (by decide) (by kernel_rfl) (Below.refl _ _).drew ?_
    simp only [List.drop_succ_cons, List.drop_zero, List.take_succ_cons, List.take_zero]
    refine wpHeld_cons (.agg #[.int .i64 kA, .int .i64 kV, .int .i64 1, .int .i64 kW, .int .i64 kX]) (by kernel_rfl) ?_ ?_
    · intro w' s
      obtain ⟨x0, x1, x2, x3, x4, y1, y2, z0, z1, z2, z3, z4⟩ := HC w' s
      try go_simp
    refine wpHeld_cons (.slice (some ⟨b, off, none⟩) n cap) (by kernel_rfl) ?_ ?_
    · intro w' s
      obtain ⟨x0, x1, x2, x3, x4, y1, y2, z0, z1, z2, z3, z4⟩ := HC w' s
      try go_simp
    refine wpHeld_cons (.int .i64 ((p : Int) + 1)) (by kernel_rfl) ?_ ?_
    · intro w' s
      obtain ⟨x0, x1, x2, x3, x4, y1, y2, z0, z1, z2, z3, z4⟩ := HC w' s
      try go_simp
    refine wpHeld_cons (.pointer (some ⟨b, off + (p + 1) * 5, none⟩)) (by kernel_rfl) ?_ ?_
    · intro w' s
      obtain ⟨x0, x1, x2, x3, x4, y1, y2, z0, z1, z2, z3, z4⟩ := HC w' s
      try go_simp
      try (first | omega | (intro h; exfalso; omega))
    refine wpHeld_cons (.agg #[.int .i64 mA, .int .i64 mV, .int .i64 mS, .int .i64 mW, .int .i64 mX]) (by kernel_rfl) ?_ ?_
    · intro w' s
      obtain ⟨x0, x1, x2, x3, x4, y1, y2, z0, z1, z2, z3, z4⟩ := HC w' s
      try go_simp
    refine wpHeld_cons ((.int .i64 at')) (by kernel_rfl) ?_ ?_
    · intro w' s
      obtain ⟨x0, x1, x2, x3, x4, y1, y2, z0, z1, z2, z3, z4⟩ := HC w' s
      try go_simp
    refine wpHeld_nil ?_
    go_simp
    refine wpAnyH_one (i := 0) (by kernel_rfl) rfl (by kernel_rfl) (fun K' hK' => ?_)
    go_simp
    refine (shapes_any _).mono ?_
    rintro e w3 ⟨rfl, hb3⟩
    have s3 : Below W.heap.size W w3 := (Below.refl _ _).drew.trans hb3
    unfold tabV tabC
    refine hK' _ _ s3 ?_
    clear hK' K' hb3
    refine wpAnyH_from 3 2 (fun _ _ _ _ _ h => h) (by kernel_rfl) (by decide) (by kernel_rfl) s3 ?_
    simp only [List.drop_succ_cons, List.drop_zero, List.take_succ_cons, List.take_zero]
    refine wpHeld_cons (.agg #[.bool false, .bool false, .func (.func 47) #[] #[]]) (by kernel_rfl) ?_ ?_
    · intro w' s
      rfl
    refine wpHeld_cons (.func (.func 47) #[] #[]) (by kernel_rfl) ?_ ?_
    · intro w' s
      rfl
    refine wpHeld_nil ?_
    go_simp
    refine wpAnyH_one (i := 11) (by kernel_rfl) rfl (by kernel_rfl) (fun K' hK' => ?_)
    go_simp
    refine (hold_ok (kA, kV, 1, kW, kX) (mA, mV, mS, mW, mX) at' _).mono ?_
    rintro e w4 ⟨rfl, hb4⟩
    have s4 : Below W.heap.size W w4 := below_after s3 hb4 s3.size
    refine hK' _ _ s4 ?_
    clear hK' K' hb4
    refine wpAnyH_one (i := 12) (by kernel_rfl) rfl (by kernel_rfl) (fun K' hK' => ?_)
    go_simp
    refine hK' _ _ s4 ?_
    clear hK' K'
    refine wpAnyH_done (by kernel_rfl) ?_ _
    refine NoPanic.normal ?_
    go_wp2
    go_ret
    exact ⟨by rw [E.out, show segV (kA, kV, 1, kW, kX) (mA, mV, mS, mW, mX) at' = kV from if_pos rfl]; rfl, below_after HBW s4 HBW.size⟩
  · subst hS
    refine wp_region_from 1 2 (fun w' => Below W.heap.size W w') (by kernel_rfl) (by kernel_rfl) (by decide) (by kernel_rfl) (Below.refl _ _).drew ?_
    simp only [List.drop_succ_cons, List.drop_zero, List.take_succ_cons, List.take_zero]
    refine wpHeld_cons (.pointer (some ⟨w1.heap.size, 2, none⟩)) (by kernel_rfl) ?_ ?_
    · intro w' s
      obtain ⟨x0, x1, x2, x3, x4, y1, y2, z0, z1, z2, z3, z4⟩ := HC w' s
      try go_simp
    refine wpHeld_cons (.int .i64 2) (by kernel_rfl) ?_ ?_
    · intro w' s
      obtain ⟨x0, x1, x2, x3, x4, y1, y2, z0, z1, z2, z3, z4⟩ := HC w' s
      try go_simp
    refine wpHeld_nil ?_
    go_simp
    refine wpAnyH_from 5 6 (fun _ _ _ _ _ h => h) (by kernel_rfl) (by decide) (by kernel_rfl) (Below.refl _ _).drew ?_
    simp only [List.drop_succ_cons, List.drop_zero, List.take_succ_cons, List.take_zero]
    refine wpHeld_cons (.agg #[.int .i64 kA, .int .i64 kV, .int .i64 2, .int .i64 kW, .int .i64 kX]) (by kernel_rfl) ?_ ?_
    · intro w' s
      obtain ⟨x0, x1, x2, x3, x4, y1, y2, z0, z1, z2, z3, z4⟩ := HC w' s
      try go_simp
    refine wpHeld_cons (.slice (some ⟨b, off, none⟩) n cap) (by kernel_rfl) ?_ ?_
    · intro w' s
      obtain ⟨x0, x1, x2, x3, x4, y1, y2, z0, z1, z2, z3, z4⟩ := HC w' s
      try go_simp
    refine wpHeld_cons (.int .i64 ((p : Int) + 1)) (by kernel_rfl) ?_ ?_
    · intro w' s
      obtain ⟨x0, x1, x2, x3, x4, y1, y2, z0, z1, z2, z3, z4⟩ := HC w' s
      try go_simp
    refine wpHeld_cons (.pointer (some ⟨b, off + (p + 1) * 5, none⟩)) (by kernel_rfl) ?_ ?_
    · intro w' s
      obtain ⟨x0, x1, x2, x3, x4, y1, y2, z0, z1, z2, z3, z4⟩ := HC w' s
      try go_simp
      try (first | omega | (intro h; exfalso; omega))
    refine wpHeld_cons (.agg #[.int .i64 mA, .int .i64 mV, .int .i64 mS, .int .i64 mW, .int .i64 mX]) (by kernel_rfl) ?_ ?_
    · intro w' s
      obtain ⟨x0, x1, x2, x3, x4, y1, y2, z0, z1, z2, z3, z4⟩ := HC w' s
      try go_simp
    refine wpHeld_cons ((.int .i64 at')) (by kernel_rfl) ?_ ?_
    · intro w' s
      obtain ⟨x0, x1, x2, x3, x4, y1, y2, z0, z1, z2, z3, z4⟩ := HC w' s
      try go_simp
    refine wpHeld_nil ?_
    go_simp
    refine wpAnyH_one (i := 0) (by kernel_rfl) rfl (by kernel_rfl) (fun K' hK' => ?_)
    go_simp
    refine (shapes_any _).mono ?_
    rintro e w3 ⟨rfl, hb3⟩
    have s3 : Below W.heap.size W w3 := (Below.refl _ _).drew.trans hb3
    unfold tabV tabC
    refine hK' _ _ s3 ?_
    clear hK' K' hb3
    refine wpAnyH_from 3 2 (fun _ _ _ _ _ h => h) (by kernel_rfl) (by decide) (by kernel_rfl) s3 ?_
    simp only [List.drop_succ_cons, List.drop_zero, List.take_succ_cons, List.take_zero]
    refine wpHeld_cons (.agg #[.bool false, .bool true, .func (.func 48) #[] #[]]) (by kernel_rfl) ?_ ?_
    · intro w' s
      rfl
    refine wpHeld_cons (.func (.func 48) #[] #[]) (by kernel_rfl) ?_ ?_
    · intro w' s
      rfl
    refine wpHeld_nil ?_
    go_simp
    refine wpAnyH_one (i := 11) (by kernel_rfl) rfl (by kernel_rfl) (fun K' hK' => ?_)
    go_simp
    refine (kline_ok (kA, kV, 2, kW, kX) (mA, mV, mS, mW, mX) at' _ (by dsimp only; omega) (HOK.out.2.2 (by omega)) (by dsimp only; omega) (by dsimp only; omega) HOK.out.1.1 HOK.out.2.1.2.1).mono ?_
    rintro e w4 ⟨rfl, hb4⟩
    have s4 : Below W.heap.size W w4 := below_after s3 hb4 s3.size
    refine hK' _ _ s4 ?_
    clear hK' K' hb4
    refine wpAnyH_one (i := 12) (by kernel_rfl) rfl (by kernel_rfl) (fun K' hK' => ?_)
    go_simp
    refine hK' _ _ s4 ?_
    clear hK' K'
    refine wpAnyH_done (by kernel_rfl) ?_ _
    refine NoPanic.normal ?_
    go_wp2
    go_ret
    exact ⟨by rw [E.out, show segV (kA, kV, 2, kW, kX) (mA, mV, mS, mW, mX) at' = lineV kV mV (at' - kA) (mA - kA) from (if_neg (show ¬ (2 : Int) = 1 by decide)).trans (if_pos rfl)]; rfl, below_after HBW s4 HBW.size⟩
  · subst hS
    refine wp_region_from 1 2 (fun w' => Below W.heap.size W w') (by kernel_rfl) (by kernel_rfl) (by decide) (by kernel_rfl) (Below.refl _ _).drew ?_
    simp only [List.drop_succ_cons, List.drop_zero, List.take_succ_cons, List.take_zero]
    refine wpHeld_cons (.pointer (some ⟨w1.heap.size, 2, none⟩)) (by kernel_rfl) ?_ ?_
    · intro w' s
      obtain ⟨x0, x1, x2, x3, x4, y1, y2, z0, z1, z2, z3, z4⟩ := HC w' s
      try go_simp
    refine wpHeld_cons (.int .i64 3) (by kernel_rfl) ?_ ?_
    · intro w' s
      obtain ⟨x0, x1, x2, x3, x4, y1, y2, z0, z1, z2, z3, z4⟩ := HC w' s
      try go_simp
    refine wpHeld_nil ?_
    go_simp
    refine wpAnyH_from 5 6 (fun _ _ _ _ _ h => h) (by kernel_rfl) (by decide) (by kernel_rfl) (Below.refl _ _).drew ?_
    simp only [List.drop_succ_cons, List.drop_zero, List.take_succ_cons, List.take_zero]
    refine wpHeld_cons (.agg #[.int .i64 kA, .int .i64 kV, .int .i64 3, .int .i64 kW, .int .i64 kX]) (by kernel_rfl) ?_ ?_
    · intro w' s
      obtain ⟨x0, x1, x2, x3, x4, y1, y2, z0, z1, z2, z3, z4⟩ := HC w' s
      try go_simp
    refine wpHeld_cons (.slice (some ⟨b, off, none⟩) n cap) (by kernel_rfl) ?_ ?_
    · intro w' s
      obtain ⟨x0, x1, x2, x3, x4, y1, y2, z0, z1, z2, z3, z4⟩ := HC w' s
      try go_simp
    refine wpHeld_cons (.int .i64 ((p : Int) + 1)) (by kernel_rfl) ?_ ?_
    · intro w' s
      obtain ⟨x0, x1, x2, x3, x4, y1, y2, z0, z1, z2, z3, z4⟩ := HC w' s
      try go_simp
    refine wpHeld_cons (.pointer (some ⟨b, off + (p + 1) * 5, none⟩)) (by kernel_rfl) ?_ ?_
    · intro w' s
      obtain ⟨x0, x1, x2, x3, x4, y1, y2, z0, z1, z2, z3, z4⟩ := HC w' s
      try go_simp
      try (first | omega | (intro h; exfalso; omega))
    refine wpHeld_cons (.agg #[.int .i64 mA, .int .i64 mV, .int .i64 mS, .int .i64 mW, .int .i64 mX]) (by kernel_rfl) ?_ ?_
    · intro w' s
      obtain ⟨x0, x1, x2, x3, x4, y1, y2, z0, z1, z2, z3, z4⟩ := HC w' s
      try go_simp
    refine wpHeld_cons ((.int .i64 at')) (by kernel_rfl) ?_ ?_
    · intro w' s
      obtain ⟨x0, x1, x2, x3, x4, y1, y2, z0, z1, z2, z3, z4⟩ := HC w' s
      try go_simp
    refine wpHeld_nil ?_
    go_simp
    refine wpAnyH_one (i := 0) (by kernel_rfl) rfl (by kernel_rfl) (fun K' hK' => ?_)
    go_simp
    refine (shapes_any _).mono ?_
    rintro e w3 ⟨rfl, hb3⟩
    have s3 : Below W.heap.size W w3 := (Below.refl _ _).drew.trans hb3
    unfold tabV tabC
    refine hK' _ _ s3 ?_
    clear hK' K' hb3
    refine wpAnyH_from 3 2 (fun _ _ _ _ _ h => h) (by kernel_rfl) (by decide) (by kernel_rfl) s3 ?_
    simp only [List.drop_succ_cons, List.drop_zero, List.take_succ_cons, List.take_zero]
    refine wpHeld_cons (.agg #[.bool true, .bool true, .func (.func 49) #[] #[]]) (by kernel_rfl) ?_ ?_
    · intro w' s
      rfl
    refine wpHeld_cons (.func (.func 49) #[] #[]) (by kernel_rfl) ?_ ?_
    · intro w' s
      rfl
    refine wpHeld_nil ?_
    go_simp
    refine wpAnyH_one (i := 11) (by kernel_rfl) rfl (by kernel_rfl) (fun K' hK' => ?_)
    go_simp
    refine (kbend_ok (kA, kV, 3, kW, kX) (mA, mV, mS, mW, mX) at' _ (by dsimp only; omega) (HOK.out.2.2 (by omega)) (by dsimp only; omega) (by dsimp only; omega) HOK.out.1.1 HOK.out.2.1.2.1 (HOK.out.1.2.2.2.2.2.2.1 rfl).1 (HOK.out.1.2.2.2.2.2.2.1 rfl).2.1 (HOK.out.1.2.2.2.2.2.2.1 rfl).2.2.1 (HOK.out.1.2.2.2.2.2.2.1 rfl).2.2.2).mono ?_
    rintro e w4 ⟨rfl, hb4⟩
    have s4 : Below W.heap.size W w4 := below_after s3 hb4 s3.size
    refine hK' _ _ s4 ?_
    clear hK' K' hb4
    refine wpAnyH_one (i := 12) (by kernel_rfl) rfl (by kernel_rfl) (fun K' hK' => ?_)
    go_simp
    refine hK' _ _ s4 ?_
    clear hK' K'
    refine wpAnyH_done (by kernel_rfl) ?_ _
    refine NoPanic.normal ?_
    go_wp2
    go_ret
    exact ⟨by rw [E.out, show segV (kA, kV, 3, kW, kX) (mA, mV, mS, mW, mX) at' = bendV kV mV (at' - kA) (mA - kA) kW kX from (if_neg (show ¬ (3 : Int) = 1 by decide)).trans (if_neg (show ¬ (3 : Int) = 2 by decide))]; rfl, below_after HBW s4 HBW.size⟩
end Go.Proofs.Ytmblkmllamccnaa
