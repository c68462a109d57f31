/- The hash of abc (layer 2). -/
import Derived.Test.YthbjjfblapfjdaaDoorDigOf
import Derived.Lib.SlBytesConst
namespace Go.Proofs.YthbjjfblapfjdaaDoor
open Go.ChangeShapes Go.WideShapes Go.ChangeAt Go.RowKit
theorem sum_abc : (dgL (sumS [97, 98, 99])).take 4 = [186, 120, 22, 191] := by decide +kernel
end Go.Proofs.YthbjjfblapfjdaaDoor
/- The chapter's examples (layer 2). -/
namespace Go.Proofs.YthbjjfblapfjdaaDoor
open Go.ChangeShapes Go.WideShapes Go.ChangeAt Go.RowKit
theorem RowB.of_vals {w : World} {g : Nat} {L : List Int} {t : TypeId} {fr : Nat × Nat} (h : w.heap[g]? = some (.cells (bV L) t fr)) : RowB w (some ⟨g, 0, none⟩) g 0 L.length L :=
  ⟨rfl, fun _ => rfl, fun _ => (Array.getElem?_eq_some_iff.1 h).1, fun i hi => by
    rw [Nat.zero_add]
    exact (blk_cell h i).trans (map_at L hi)⟩
theorem RowB.none (w : World) : RowB w none 0 0 0 [] := ⟨rfl, fun h => by omega, fun h => by omega, fun i hi => by omega⟩
theorem DigR.none (w : World) : DigR w none 0 0 0 [] := ⟨rfl, fun i hi => by omega, fun h => by omega, fun h => by omega, fun i j hi => by omega⟩
theorem four {w : World} {s : St} {g : Nat} {a b c d : Int} {t : TypeId} {fr : Nat × Nat} (h : (dgL s).take 4 = [a, b, c, d]) (hg : w.heap[g]? = some (.cells (dgV s) t fr)) :
    w.cell? ⟨g, 0, none⟩ = some (.int .u8 a) ∧ w.cell? ⟨g, 1, none⟩ = some (.int .u8 b) ∧ w.cell? ⟨g, 2, none⟩ = some (.int .u8 c) ∧ w.cell? ⟨g, 3, none⟩ = some (.int .u8 d) := by
  have e : ∀ i x, ([a, b, c, d] : List Int)[i]? = some x → i < 4 → w.cell? ⟨g, i, none⟩ = some (.int .u8 x) := fun i x hx hi => by
    rw [← h, List.getElem?_take, if_pos hi] at hx
    rw [blk_cell hg, bV_dg]
    simp only [bV, List.getElem?_toArray, List.getElem?_map, hx]
    rfl
  exact ⟨e 0 a rfl (by decide), e 1 b rfl (by decide), e 2 c rfl (by decide), e 3 d rfl (by decide)⟩
def oneL : List Int := 1 :: List.replicate 31 0
theorem oneL_len : oneL.length = 32 := rfl
theorem sum_nil : (dgL (sumS [])).take 4 = [227, 176, 196, 66] := by decide +kernel
theorem wpHeld_build {ops : Array Oper} {S : World → Prop} {o : Oper} {l : List Oper} {a : Act} {K : Act → Prop} (parts : Array (Nat × Operand)) (ho : o.op = .build 26 parts) (hw : Region.wanted o (yielded ops a.tmps) = true) (vs : List (Nat × Value))
    (hv : (parts.map fun (i, x) => (i, a.eval x)).toList = vs) (m : List Int) (hb : Tryd.prog.built 26 vs = some (bV m)) (hr : wpHeld Tryd.prog ops S K l (a.put o.dst (.agg (bV m)))) : wpHeld Tryd.prog ops S K (o :: l) a :=
  wpHeld_cons (.agg (bV m)) hw (fun w _ => by
    unfold execOp
    simp only [ho, Sem.run_bind, run_build w 26 _ _ (by rw [hv]; exact hb), Result.andThen_ok]
    rfl) hr
def z64 : List Int := List.replicate 64 0
theorem run_make64 (w : World) : (Instr.makeSlice 22 (.int .i64 64) (.int .i64 64)).run Tryd.prog w = .ok (.slice (some ⟨w.heap.size, 0, none⟩) 64 64) (w.alloc (.cells (bV z64) 5)) := by
  obtain ⟨i0, hi, hz0, hz1, hz2⟩ := info_parts info_u8
  have := run_make (P := Tryd.prog) w 22 5 i0 _ Tryd.underlying22 hi hz0 .i64 .i64 64 64 (by decide) (by decide) (by rw [hz2]; decide) (by decide)
  rw [hz1] at this
  rw [this]
  congr 3
  kernel_rfl
set_option maxRecDepth 100000 in
set_option maxHeartbeats 4000000 in
theorem sane_any (w : World) (hK : Keys w) : Calls Tryd.prog 11 #[] w fun e w' => e = .returned (.bool true) ∧ Below w.heap.size w w' := by
  have HK := Lib.hid hK
  clear hK
  have kc := fun (w : World) (C : Array Value) (n c : Nat) => Lib.run_convert_bytes_const (P := Tryd.prog) w 22 5 C n c Tryd.underlying22 Tryd.underlying5
  go_enter Tryd.func11, Tryd.ntmps11
  go_upto_region 1 with fail
  have ha := blk_new w (.cells #[.int .u8 97, .int .u8 98, .int .u8 99] 5 (3, 4))
  have hB0 : Below w.heap.size w (w.alloc (.cells #[.int .u8 97, .int .u8 98, .int .u8 99] 5 (3, 4))) := (Below.refl _ _).alloc (Nat.le_refl _) _
  have HA := Lib.hid (show _ ∧ Below w.heap.size w _ ∧ Keys _ from ⟨RowB.of_vals (L := [97, 98, 99]) ha, hB0, HK.out.below hB0⟩)
  clear ha hB0
  go_wp2_with fail
  generalize w.alloc (.cells #[.int .u8 97, .int .u8 98, .int .u8 99] 5 (3, 4)) = W1 at *
  refine (sum_any _ w.heap.size 0 3 3 [97, 98, 99] W1 HA.out.2.2 HA.out.1 (by decide) (by decide)).mono ?_
  rintro e W2 ⟨rfl, hb2⟩
  have HB := Lib.hid (show Below w.heap.size w W2 ∧ Keys W2 from ⟨below_after HA.out.2.1 hb2 HA.out.2.1.size, HA.out.2.2.below hb2⟩)
  clear hb2 HA
  go_wp2_with fail
  refine (sum_any none 0 0 0 0 [] W2 HB.out.2 (RowB.none _) (by decide) (by decide)).mono ?_
  rintro e W3 ⟨rfl, hb3⟩
  have HC := Lib.hid (show Below w.heap.size w W3 ∧ Keys W3 from ⟨below_after HB.out.1 hb3 HB.out.1.size, HB.out.2.below hb3⟩)
  clear hb3 HB
  go_wp2_with (with_reducible refine held (o := ⟨none, _, _, _, _, _⟩) ?_)
  unfold Held
  have hx := blk_alloc (blk_new W3 (.cells (List.toArray (.int .u8 0 :: .int .u8 0 :: .int .u8 0 :: .int .u8 0 :: .int .u8 0 :: .int .u8 0 :: .int .u8 0 :: .int .u8 0 :: .int .u8 0 :: .int .u8 0 :: .int .u8 0 :: .int .u8 0 :: .int .u8 0 :: .int .u8 0 :: .int .u8 0 :: .int .u8 0 :: .int .u8 0 :: .int .u8 0 :: .int .u8 0 :: .int .u8 0 :: .int .u8 0 :: .int .u8 0 :: .int .u8 0 :: .int .u8 0 :: .int .u8 0 :: .int .u8 0 :: .int .u8 0 :: .int .u8 0 :: .int .u8 0 :: .int .u8 0 :: .int .u8 0 :: .int .u8 0 :: [])) 26)) (.cells (List.toArray (.int .u8 0 :: .int .u8 0 :: .int .u8 0 :: .int .u8 0 :: .int .u8 0 :: .int .u8 0 :: .int .u8 0 :: .int .u8 0 :: .int .u8 0 :: .int .u8 0 :: .int .u8 0 :: .int .u8 0 :: .int .u8 0 :: .int .u8 0 :: .int .u8 0 :: .int .u8 0 :: .int .u8 0 :: .int .u8 0 :: .int .u8 0 :: .int .u8 0 :: .int .u8 0 :: .int .u8 0 :: .int .u8 0 :: .int .u8 0 :: .int .u8 0 :: .int .u8 0 :: .int .u8 0 :: .int .u8 0 :: .int .u8 0 :: .int .u8 0 :: .int .u8 0 :: .int .u8 0 :: [])) 26)
  have hy := blkN (W := W3.alloc (.cells (List.toArray (.int .u8 0 :: .int .u8 0 :: .int .u8 0 :: .int .u8 0 :: .int .u8 0 :: .int .u8 0 :: .int .u8 0 :: .int .u8 0 :: .int .u8 0 :: .int .u8 0 :: .int .u8 0 :: .int .u8 0 :: .int .u8 0 :: .int .u8 0 :: .int .u8 0 :: .int .u8 0 :: .int .u8 0 :: .int .u8 0 :: .int .u8 0 :: .int .u8 0 :: .int .u8 0 :: .int .u8 0 :: .int .u8 0 :: .int .u8 0 :: .int .u8 0 :: .int .u8 0 :: .int .u8 0 :: .int .u8 0 :: .int .u8 0 :: .int .u8 0 :: .int .u8 0 :: .int .u8 0 :: [])) 26)) (o := .cells (List.toArray (.int .u8 0 :: .int .u8 0 :: .int .u8 0 :: .int .u8 0 :: .int .u8 0 :: .int .u8 0 :: .int .u8 0 :: .int .u8 0 :: .int .u8 0 :: .int .u8 0 :: .int .u8 0 :: .int .u8 0 :: .int .u8 0 :: .int .u8 0 :: .int .u8 0 :: .int .u8 0 :: .int .u8 0 :: .int .u8 0 :: .int .u8 0 :: .int .u8 0 :: .int .u8 0 :: .int .u8 0 :: .int .u8 0 :: .int .u8 0 :: .int .u8 0 :: .int .u8 0 :: .int .u8 0 :: .int .u8 0 :: .int .u8 0 :: .int .u8 0 :: .int .u8 0 :: .int .u8 0 :: [])) 26) (k := W3.heap.size + 1) (by simp)
  have hb : Below W3.heap.size W3 ((W3.alloc (.cells (List.toArray (.int .u8 0 :: .int .u8 0 :: .int .u8 0 :: .int .u8 0 :: .int .u8 0 :: .int .u8 0 :: .int .u8 0 :: .int .u8 0 :: .int .u8 0 :: .int .u8 0 :: .int .u8 0 :: .int .u8 0 :: .int .u8 0 :: .int .u8 0 :: .int .u8 0 :: .int .u8 0 :: .int .u8 0 :: .int .u8 0 :: .int .u8 0 :: .int .u8 0 :: .int .u8 0 :: .int .u8 0 :: .int .u8 0 :: .int .u8 0 :: .int .u8 0 :: .int .u8 0 :: .int .u8 0 :: .int .u8 0 :: .int .u8 0 :: .int .u8 0 :: .int .u8 0 :: .int .u8 0 :: [])) 26)).alloc (.cells (List.toArray (.int .u8 0 :: .int .u8 0 :: .int .u8 0 :: .int .u8 0 :: .int .u8 0 :: .int .u8 0 :: .int .u8 0 :: .int .u8 0 :: .int .u8 0 :: .int .u8 0 :: .int .u8 0 :: .int .u8 0 :: .int .u8 0 :: .int .u8 0 :: .int .u8 0 :: .int .u8 0 :: .int .u8 0 :: .int .u8 0 :: .int .u8 0 :: .int .u8 0 :: .int .u8 0 :: .int .u8 0 :: .int .u8 0 :: .int .u8 0 :: .int .u8 0 :: .int .u8 0 :: .int .u8 0 :: .int .u8 0 :: .int .u8 0 :: .int .u8 0 :: .int .u8 0 :: .int .u8 0 :: [])) 26)) := ((Below.refl _ _).alloc (Nat.le_refl _) _).alloc (by simp) _
  refine wpList_store_row rfl 26 (.tmp 1) (.tmp 12) rfl W3.heap.size (dgV (sumS [97, 98, 99])) (by kernel_rfl) (by kernel_rfl) 26 _ hx (by rw [dgV_size]; kernel_rfl) (by rw [dgV_size]; rfl) (dgV_one _) ?_
  have hx2 := setRow_heap _ W3.heap.size _ (dgV (sumS [97, 98, 99])) 26 (0, 0) hx
  have hy2 := (setRow_other _ W3.heap.size (W3.heap.size + 1) (dgV (sumS [97, 98, 99])) (by omega)).trans hy
  have hb2 := below_setRow hb (Nat.le_refl _) (dgV (sumS [97, 98, 99]))
  generalize ((W3.alloc (.cells (List.toArray (.int .u8 0 :: .int .u8 0 :: .int .u8 0 :: .int .u8 0 :: .int .u8 0 :: .int .u8 0 :: .int .u8 0 :: .int .u8 0 :: .int .u8 0 :: .int .u8 0 :: .int .u8 0 :: .int .u8 0 :: .int .u8 0 :: .int .u8 0 :: .int .u8 0 :: .int .u8 0 :: .int .u8 0 :: .int .u8 0 :: .int .u8 0 :: .int .u8 0 :: .int .u8 0 :: .int .u8 0 :: .int .u8 0 :: .int .u8 0 :: .int .u8 0 :: .int .u8 0 :: .int .u8 0 :: .int .u8 0 :: .int .u8 0 :: .int .u8 0 :: .int .u8 0 :: .int .u8 0 :: [])) 26)).alloc (.cells (List.toArray (.int .u8 0 :: .int .u8 0 :: .int .u8 0 :: .int .u8 0 :: .int .u8 0 :: .int .u8 0 :: .int .u8 0 :: .int .u8 0 :: .int .u8 0 :: .int .u8 0 :: .int .u8 0 :: .int .u8 0 :: .int .u8 0 :: .int .u8 0 :: .int .u8 0 :: .int .u8 0 :: .int .u8 0 :: .int .u8 0 :: .int .u8 0 :: .int .u8 0 :: .int .u8 0 :: .int .u8 0 :: .int .u8 0 :: .int .u8 0 :: .int .u8 0 :: .int .u8 0 :: .int .u8 0 :: .int .u8 0 :: .int .u8 0 :: .int .u8 0 :: .int .u8 0 :: .int .u8 0 :: [])) 26)).setRow W3.heap.size (dgV (sumS [97, 98, 99])) = W4 at *
  clear hx hy hb
  refine wpList_store_row rfl 26 (.tmp 2) (.tmp 13) rfl (W3.heap.size + 1) (dgV (sumS [])) (by kernel_rfl) (by kernel_rfl) 26 _ hy2 (by rw [dgV_size]; kernel_rfl) (by rw [dgV_size]; rfl) (dgV_one _) ?_
  have hx := (setRow_other _ (W3.heap.size + 1) W3.heap.size (dgV (sumS [])) (by omega)).trans hx2
  have hy := setRow_heap _ (W3.heap.size + 1) _ (dgV (sumS [])) 26 (0, 0) hy2
  have hb := below_setRow hb2 (Nat.le_succ _) (dgV (sumS []))
  generalize W4.setRow (W3.heap.size + 1) (dgV (sumS [])) = W5 at *
  have HD := Lib.hid (show W5.heap[W3.heap.size]? = _ ∧ W5.heap[W3.heap.size + 1]? = _ ∧ Below w.heap.size w W5 ∧ Keys W5 from ⟨hx, hy, HC.out.1.trans (hb.mono HC.out.1.size), HC.out.2.below hb⟩)
  clear hx hy hx2 hy2 hb hb2 HC
  generalize W3.heap.size = g at *
  go_simp
  go_wp2_with fail
  refine (path_any none 0 0 0 0 [] 0 W5 (DigR.none _) (by decide) (by decide) HD.out.2.2.2).mono ?_
  rintro e W6 ⟨hP, hb6⟩
  have hP : e = .returned (.tuple #[.slice none 0 0, .int .i64 1]) := by
    rcases hP with ⟨j, _, hj, _⟩ | ⟨_, h⟩
    · omega
    · exact h
  subst hP
  have HE := Lib.hid (show W6.heap[g]? = _ ∧ W6.heap[g + 1]? = _ ∧ Below w.heap.size w W6 ∧ Keys W6 from ⟨blk_below HD.out.1 hb6 (Array.getElem?_eq_some_iff.1 HD.out.1).1, blk_below HD.out.2.1 hb6 (Array.getElem?_eq_some_iff.1 HD.out.2.1).1, HD.out.2.2.1.trans (hb6.mono HD.out.2.2.1.size), HD.out.2.2.2.below hb6⟩)
  clear hb6 HD
  go_wp2_with (with_reducible refine held (o := ⟨some 19, _, _, _, _, _⟩) ?_)
  unfold Held
  refine wpList_build_of rfl #[] rfl [] (by kernel_rfl) zL built0 ?_
  go_wp2_with fail
  refine (climbE_any zL zL_len 0 2 none 0 0 0 0 [] W6 (DigR.none _) (by decide) HE.out.2.2.2).mono ?_
  rintro e W7 ⟨hC, hb7⟩
  have hC : e = .returned (.tuple #[.agg (bV zL), .int .i64 1]) := by
    rcases hC with ⟨j, k, h1, h2, _, _, hs, _⟩ | ⟨_, h⟩
    · obtain rfl : k = 2 := by omega
      obtain rfl : j = 0 := by omega
      rw [stepsN_low (k := 1) (by decide) (by decide) (by decide)] at hs
      omega
    · exact h
  subst hC
  have HF := Lib.hid (show W7.heap[g]? = _ ∧ W7.heap[g + 1]? = _ ∧ Below w.heap.size w W7 ∧ Keys W7 from ⟨blk_below HE.out.1 hb7 (Array.getElem?_eq_some_iff.1 HE.out.1).1, blk_below HE.out.2.1 hb7 (Array.getElem?_eq_some_iff.1 HE.out.2.1).1, HE.out.2.2.1.trans (hb7.mono HE.out.2.2.1.size), HE.out.2.2.2.below hb7⟩)
  clear hb7 HE
  go_wp2_with (with_reducible refine held (o := ⟨none, _, _, _, _, _⟩) ?_)
  unfold Held
  refine wpList_store_row rfl 26 (.tmp 5) (.tmp 21) rfl W7.heap.size (bV zL) (by kernel_rfl) (by kernel_rfl) 26 _ (blk_new W7 _) (by kernel_rfl) (by kernel_rfl) (bV_one _) ?_
  have hb := below_setRow ((Below.refl W7.heap.size W7).alloc (Nat.le_refl _) (.cells (List.toArray (.int .u8 0 :: .int .u8 0 :: .int .u8 0 :: .int .u8 0 :: .int .u8 0 :: .int .u8 0 :: .int .u8 0 :: .int .u8 0 :: .int .u8 0 :: .int .u8 0 :: .int .u8 0 :: .int .u8 0 :: .int .u8 0 :: .int .u8 0 :: .int .u8 0 :: .int .u8 0 :: .int .u8 0 :: .int .u8 0 :: .int .u8 0 :: .int .u8 0 :: .int .u8 0 :: .int .u8 0 :: .int .u8 0 :: .int .u8 0 :: .int .u8 0 :: .int .u8 0 :: .int .u8 0 :: .int .u8 0 :: .int .u8 0 :: .int .u8 0 :: .int .u8 0 :: .int .u8 0 :: [])) 26)) (Nat.le_refl _) (bV zL)
  generalize (W7.alloc (.cells (List.toArray (.int .u8 0 :: .int .u8 0 :: .int .u8 0 :: .int .u8 0 :: .int .u8 0 :: .int .u8 0 :: .int .u8 0 :: .int .u8 0 :: .int .u8 0 :: .int .u8 0 :: .int .u8 0 :: .int .u8 0 :: .int .u8 0 :: .int .u8 0 :: .int .u8 0 :: .int .u8 0 :: .int .u8 0 :: .int .u8 0 :: .int .u8 0 :: .int .u8 0 :: .int .u8 0 :: .int .u8 0 :: .int .u8 0 :: .int .u8 0 :: .int .u8 0 :: .int .u8 0 :: .int .u8 0 :: .int .u8 0 :: .int .u8 0 :: .int .u8 0 :: .int .u8 0 :: .int .u8 0 :: [])) 26)).setRow W7.heap.size (bV zL) = W8 at *
  have HE := Lib.hid (show W8.heap[g]? = _ ∧ W8.heap[g + 1]? = _ ∧ Below w.heap.size w W8 ∧ Keys W8 from ⟨blk_below HF.out.1 hb (Array.getElem?_eq_some_iff.1 HF.out.1).1, blk_below HF.out.2.1 hb (Array.getElem?_eq_some_iff.1 HF.out.2.1).1, HF.out.2.2.1.trans (hb.mono HF.out.2.2.1.size), HF.out.2.2.2.below hb⟩)
  clear hb HF
  go_simp
  go_wp2_with (with_reducible refine held (o := ⟨some 24, _, _, _, _, _⟩) ?_)
  unfold Held
  refine wpList_build_of rfl #[(0, .const (.int .u8 1))] rfl [(0, .int .u8 1)] (by kernel_rfl) oneL (built1 1) ?_
  go_wp2_with fail
  refine (climbE_any oneL oneL_len 0 1 none 0 0 0 0 [] W8 (DigR.none _) (by decide) HE.out.2.2.2).mono ?_
  rintro e W9 ⟨hC, hb9⟩
  have hC : e = .returned (.tuple #[.agg (bV (dgL (tagS ⟨#[108, 101, 97, 102]⟩ oneL))), .int .i64 0]) := by
    rcases hC with ⟨j, k, h1, h2, _, _, _, h⟩ | ⟨h, _⟩
    · obtain rfl : k = 1 := by omega
      rw [climbS_one] at h
      exact h
    · exact absurd ⟨0, 1, rfl, rfl, by decide, by decide, stepsN_one 0⟩ h
  subst hC
  have HF := Lib.hid (show W9.heap[g]? = _ ∧ W9.heap[g + 1]? = _ ∧ Below w.heap.size w W9 ∧ Keys W9 from ⟨blk_below HE.out.1 hb9 (Array.getElem?_eq_some_iff.1 HE.out.1).1, blk_below HE.out.2.1 hb9 (Array.getElem?_eq_some_iff.1 HE.out.2.1).1, HE.out.2.2.1.trans (hb9.mono HE.out.2.2.1.size), HE.out.2.2.2.below hb9⟩)
  clear hb9 HE
  go_wp2_with (with_reducible refine held (o := ⟨none, _, _, _, _, _⟩) ?_)
  unfold Held
  refine wpList_store_row rfl 26 (.tmp 7) (.tmp 26) rfl W9.heap.size (bV (dgL (tagS ⟨#[108, 101, 97, 102]⟩ oneL))) (by kernel_rfl) (by kernel_rfl) 26 _ (blk_new W9 _) (by rw [bV_size, dgL_len]; kernel_rfl) (by rw [bV_size, dgL_len]; rfl) (bV_one _) ?_
  have hz := setRow_heap (W9.alloc (.cells (List.toArray (.int .u8 0 :: .int .u8 0 :: .int .u8 0 :: .int .u8 0 :: .int .u8 0 :: .int .u8 0 :: .int .u8 0 :: .int .u8 0 :: .int .u8 0 :: .int .u8 0 :: .int .u8 0 :: .int .u8 0 :: .int .u8 0 :: .int .u8 0 :: .int .u8 0 :: .int .u8 0 :: .int .u8 0 :: .int .u8 0 :: .int .u8 0 :: .int .u8 0 :: .int .u8 0 :: .int .u8 0 :: .int .u8 0 :: .int .u8 0 :: .int .u8 0 :: .int .u8 0 :: .int .u8 0 :: .int .u8 0 :: .int .u8 0 :: .int .u8 0 :: .int .u8 0 :: .int .u8 0 :: [])) 26)) W9.heap.size _ (bV (dgL (tagS ⟨#[108, 101, 97, 102]⟩ oneL))) 26 (0, 0) (blk_new W9 _)
  have hb := below_setRow ((Below.refl W9.heap.size W9).alloc (Nat.le_refl _) (.cells (List.toArray (.int .u8 0 :: .int .u8 0 :: .int .u8 0 :: .int .u8 0 :: .int .u8 0 :: .int .u8 0 :: .int .u8 0 :: .int .u8 0 :: .int .u8 0 :: .int .u8 0 :: .int .u8 0 :: .int .u8 0 :: .int .u8 0 :: .int .u8 0 :: .int .u8 0 :: .int .u8 0 :: .int .u8 0 :: .int .u8 0 :: .int .u8 0 :: .int .u8 0 :: .int .u8 0 :: .int .u8 0 :: .int .u8 0 :: .int .u8 0 :: .int .u8 0 :: .int .u8 0 :: .int .u8 0 :: .int .u8 0 :: .int .u8 0 :: .int .u8 0 :: .int .u8 0 :: .int .u8 0 :: [])) 26)) (Nat.le_refl _) (bV (dgL (tagS ⟨#[108, 101, 97, 102]⟩ oneL)))
  generalize (W9.alloc (.cells (List.toArray (.int .u8 0 :: .int .u8 0 :: .int .u8 0 :: .int .u8 0 :: .int .u8 0 :: .int .u8 0 :: .int .u8 0 :: .int .u8 0 :: .int .u8 0 :: .int .u8 0 :: .int .u8 0 :: .int .u8 0 :: .int .u8 0 :: .int .u8 0 :: .int .u8 0 :: .int .u8 0 :: .int .u8 0 :: .int .u8 0 :: .int .u8 0 :: .int .u8 0 :: .int .u8 0 :: .int .u8 0 :: .int .u8 0 :: .int .u8 0 :: .int .u8 0 :: .int .u8 0 :: .int .u8 0 :: .int .u8 0 :: .int .u8 0 :: .int .u8 0 :: .int .u8 0 :: .int .u8 0 :: [])) 26)).setRow W9.heap.size (bV (dgL (tagS ⟨#[108, 101, 97, 102]⟩ oneL))) = WA at *
  have HE := Lib.hid (show WA.heap[W9.heap.size]? = _ ∧ Below w.heap.size w WA ∧ Keys WA from ⟨hz, HF.out.2.2.1.trans (hb.mono HF.out.2.2.1.size), HF.out.2.2.2.below hb⟩)
  have hA := blk_below HF.out.1 hb (Array.getElem?_eq_some_iff.1 HF.out.1).1
  have hB := blk_below HF.out.2.1 hb (Array.getElem?_eq_some_iff.1 HF.out.2.1).1
  obtain ⟨a0, a1, a2, a3⟩ := four sum_abc hA
  obtain ⟨b0, b1, b2, b3⟩ := four sum_nil hB
  clear hz hb HF hA hB
  generalize W9.heap.size = q at *
  go_simp
  go_upto_region 6 with fail
  clear a0 a1 a2 a3 b0 b1 b2 b3 kc
  refine wp_region_from 0 16 (fun w' => Below WA.heap.size WA w') (by kernel_rfl) (by kernel_rfl) (by decide) (by kernel_rfl) (Below.refl _ _).drew ?_
  simp only [List.drop_zero, List.take_succ_cons, List.take_zero]
  refine wpHeld_cons (.bool true) (by kernel_rfl) ?_ ?_
  · rintro w' -
    try go_simp
  refine wpHeld_cons (.bool true) (by kernel_rfl) ?_ ?_
  · rintro w' -
    try go_simp
  refine wpHeld_cons (.int .i64 1) (by kernel_rfl) ?_ ?_
  · rintro w' -
    try go_simp
  refine wpHeld_cons (.bool true) (by kernel_rfl) ?_ ?_
  · rintro w' -
    try go_simp
  refine wpHeld_cons (.bool true) (by kernel_rfl) ?_ ?_
  · rintro w' -
    try go_simp
  refine wpHeld_cons (.bool true) (by kernel_rfl) ?_ ?_
  · rintro w' -
    try go_simp
  refine wpHeld_cons (.int .i64 1) (by kernel_rfl) ?_ ?_
  · rintro w' -
    try go_simp
  refine wpHeld_cons (.bool true) (by kernel_rfl) ?_ ?_
  · rintro w' -
    try go_simp
  refine wpHeld_cons (.bool true) (by kernel_rfl) ?_ ?_
  · rintro w' -
    try go_simp
  refine wpHeld_cons (.bool true) (by kernel_rfl) ?_ ?_
  · rintro w' -
    try go_simp
  refine wpHeld_cons (.int .i64 0) (by kernel_rfl) ?_ ?_
  · rintro w' -
    try go_simp
  refine wpHeld_cons (.bool true) (by kernel_rfl) ?_ ?_
  · rintro w' -
    try go_simp
  refine wpHeld_cons (.bool true) (by kernel_rfl) ?_ ?_
  · rintro w' -
    try go_simp
  refine wpHeld_cons (.bool true) (by kernel_rfl) ?_ ?_
  · rintro w' -
    try go_simp
  refine wpHeld_load (.tmp 7) (by kernel_rfl) (by kernel_rfl) q 0 (by kernel_rfl) (dgL (tagS ⟨#[108, 101, 97, 102]⟩ oneL)) (dgL_len _) (fun w' hS => (RowB.of_bV (dgL_len _) (blk_below HE.out.1 hS (Array.getElem?_eq_some_iff.1 HE.out.1).1)).range) ?_
  refine wpHeld_build #[(0, .const (.int .u8 1))] (by kernel_rfl) (by kernel_rfl) [(0, .int .u8 1)] (by kernel_rfl) oneL (built1 1) ?_
  refine wpHeld_nil ?_
  go_simp
  have hb0 : Below WA.heap.size WA WA.drew := (Below.refl _ _).drew
  refine wpAnyH_one (i := 16) (by kernel_rfl) rfl (by kernel_rfl) (fun K' hK' => ?_)
  refine wp_build_D (.tmp 81) rfl oneL oneL_len (by kernel_rfl) ?_
  have hn := blk_new WA.drew (.cells (bV oneL) 26)
  have hb1 := hb0.alloc hb0.size (.cells (bV oneL) 26)
  refine hK' _ _ hb1 ?_
  clear hK' K'
  go_simp
  refine wpAnyH_one (i := 17) (by kernel_rfl) rfl (by kernel_rfl) (fun K' hK' => ?_)
  go_simp
  have hO : DigR (WA.drew.alloc (.cells (bV oneL) 26)) (some ⟨WA.heap.size, 0, none⟩) WA.heap.size 0 1 [oneL] :=
    ⟨rfl, fun i hi => by obtain rfl : i = 0 := by omega
                         rfl, fun _ => rfl, fun _ => (Array.getElem?_eq_some_iff.1 hn).1, fun i j hi hj => by
      obtain rfl : i = 0 := by omega
      have hc := (RowB.of_bV oneL_len hn).cel j hj
      rw [show 0 + 0 * 32 + j = 0 + j by omega]
      exact hc⟩
  refine (tree_any 1 (by decide) (some ⟨WA.heap.size, 0, none⟩) WA.heap.size 0 1 [oneL] _ hO (by decide) (HE.out.2.2.below hb1)).mono ?_
  clear hO hn
  rintro e W2 ⟨rfl, hb2⟩
  rw [bV_dg, treeS_leaf rfl, show ([oneL] : List (List Int)).getD 0 [] = oneL from rfl]
  have hb3 := below_after hb1 hb2 hb1.size
  have HG := Lib.hid (show Below WA.heap.size WA W2 ∧ Keys W2 from ⟨hb3, HE.out.2.2.below hb3⟩)
  clear hb0 hb1 hb2 hb3
  refine hK' _ _ HG.out.1 ?_
  clear hK' K'
  go_simp
  refine wpAnyH_from (fuel := 13) 18 3 (fun _ _ _ _ _ h => h) (by kernel_rfl) (by decide) (by kernel_rfl) HG.out.1 ?_
  simp only [List.drop_succ_cons, List.drop_zero, List.take_succ_cons, List.take_zero]
  refine wpHeld_cons (.bool true) (by kernel_rfl) ?_ ?_
  · rintro w' -
    try go_simp
    rw [run_eq_D (dgL (tagS ⟨#[108, 101, 97, 102]⟩ oneL)) (dgL (tagS ⟨#[108, 101, 97, 102]⟩ oneL)) (dgL_len _) (dgL_len _), decide_eq_true rfl]
    go_simp
  refine wpHeld_cons (.bool true) (by kernel_rfl) ?_ ?_
  · rintro w' -
    try go_simp
  refine wpHeld_cons (.bool true) (by kernel_rfl) ?_ ?_
  · rintro w' -
    try go_simp
  refine wpHeld_nil ?_
  go_simp
  refine wpAnyH_one (i := 21) (by kernel_rfl) rfl (by kernel_rfl) (fun K' hK' => ?_)
  go_simp
  refine (tree_any 0 (by decide) none 0 0 0 [] _ (DigR.none _) (by decide) HG.out.2).mono ?_
  rintro e W3 ⟨rfl, hb3⟩
  rw [bV_dg, treeS_empty rfl]
  have HF := Lib.hid (show Below WA.heap.size WA W3 ∧ Keys W3 from ⟨below_after HG.out.1 hb3 HG.out.1.size, HG.out.2.below hb3⟩)
  clear hb3 HG
  refine hK' _ _ HF.out.1 ?_
  clear hK' K'
  go_simp
  refine wpAnyH_one (i := 22) (by kernel_rfl) rfl (by kernel_rfl) (fun K' hK' => ?_)
  go_simp
  refine (tagged_any ⟨#[101, 109, 112, 116, 121]⟩ none 0 0 0 0 [] _ HF.out.2 (RowB.none _) (fun _ => rfl) (by decide) (by decide)).mono ?_
  rintro e W4 ⟨rfl, hb4⟩
  rw [bV_dg]
  have HG := Lib.hid (show Below WA.heap.size WA W4 ∧ Keys W4 from ⟨below_after HF.out.1 hb4 HF.out.1.size, HF.out.2.below hb4⟩)
  clear hb4 HF
  refine hK' _ _ HG.out.1 ?_
  clear hK' K'
  go_simp
  refine wpAnyH_from (fuel := 6) 23 5 (fun _ _ _ _ _ h => h) (by kernel_rfl) (by decide) (by kernel_rfl) HG.out.1 ?_
  simp only [List.drop_succ_cons, List.drop_zero, List.take_succ_cons, List.take_zero]
  refine wpHeld_cons (.bool true) (by kernel_rfl) ?_ ?_
  · rintro w' -
    try go_simp
    rw [run_eq_D (dgL (tagS ⟨#[101, 109, 112, 116, 121]⟩ [])) (dgL (tagS ⟨#[101, 109, 112, 116, 121]⟩ [])) (dgL_len _) (dgL_len _), decide_eq_true rfl]
    go_simp
  refine wpHeld_cons (.bool true) (by kernel_rfl) ?_ ?_
  · rintro w' -
    try go_simp
  refine wpHeld_cons (.bool true) (by kernel_rfl) ?_ ?_
  · rintro w' -
    try go_simp
  refine wpHeld_build #[] (by kernel_rfl) (by kernel_rfl) [] (by kernel_rfl) zL built0 ?_
  refine wpHeld_build #[] (by kernel_rfl) (by kernel_rfl) [] (by kernel_rfl) zL built0 ?_
  refine wpHeld_nil ?_
  go_simp
  refine wpAnyH_two (i := 28) (j := 29) (by kernel_rfl) rfl rfl (by kernel_rfl) (by kernel_rfl) (fun K' hK' => ?_) (fun K' hK' => ?_)
  · go_simp
    refine (chain_any zL zL zL_len zL_len _ HG.out.2).mono ?_
    rintro e W5 ⟨rfl, hb5⟩
    rw [bV_dg]
    have HF := Lib.hid (show Below WA.heap.size WA W5 ∧ Keys W5 from ⟨below_after HG.out.1 hb5 HG.out.1.size, HG.out.2.below hb5⟩)
    clear hb5
    refine hK' _ _ HF.out.1 ?_
    clear hK' K'
    go_simp
    refine wpAnyH_one (i := 29) (by kernel_rfl) rfl (by kernel_rfl) (fun K' hK' => ?_)
    go_simp
    rw [run_make64]
    go_simp
    have hb6 := (Below.refl W5.heap.size W5).alloc (Nat.le_refl _) (.cells (bV z64) 5)
    have HH := Lib.hid (show Below WA.heap.size WA _ ∧ Keys _ ∧ RowB _ _ _ 0 64 z64 from ⟨below_after HF.out.1 hb6 HF.out.1.size, HF.out.2.below hb6, RowB.of_vals (L := z64) (blk_new W5 (.cells (bV z64) 5))⟩)
    generalize W5.alloc (.cells (bV z64) 5) = W6 at *
    refine hK' _ _ HH.out.1 ?_
    clear hK' K'
    go_simp
    refine wpAnyH_one (i := 30) (by kernel_rfl) rfl (by kernel_rfl) (fun K' hK' => ?_)
    go_simp
    refine (tagged_any ⟨#[99, 104, 97, 105, 110]⟩ (some ⟨W5.heap.size, 0, none⟩) W5.heap.size 0 64 64 z64 _ HH.out.2.1 HH.out.2.2 (fun h => by cases h) (by decide) (by decide)).mono ?_
    rintro e W7 ⟨rfl, hb7⟩
    rw [bV_dg, show z64 = zL ++ zL from rfl]
    have HZ := Lib.hid (show Below WA.heap.size WA W7 from below_after HH.out.1 hb7 HH.out.1.size)
    clear hb7
    refine hK' _ _ HZ.out ?_
    clear hK' K'
    go_simp
    refine wpAnyH_from (fuel := 0) 31 3 (fun _ _ _ _ _ h => h) (by kernel_rfl) (by decide) (by kernel_rfl) HZ.out ?_
    simp only [List.drop_succ_cons, List.drop_zero, List.take_succ_cons, List.take_zero]
    refine wpHeld_cons (.bool true) (by kernel_rfl) ?_ ?_
    · rintro w' -
      try go_simp
      rw [run_eq_D (dgL (tagS ⟨#[99, 104, 97, 105, 110]⟩ (zL ++ zL))) (dgL (tagS ⟨#[99, 104, 97, 105, 110]⟩ (zL ++ zL))) (dgL_len _) (dgL_len _), decide_eq_true rfl]
      go_simp
    refine wpHeld_cons (.bool true) (by kernel_rfl) ?_ ?_
    · rintro w' -
      try go_simp
    refine wpHeld_cons (.bool true) (by kernel_rfl) ?_ ?_
    · rintro w' -
      try go_simp
    refine wpHeld_nil ?_
    go_simp
    refine wpAnyH_done (by kernel_rfl) ?_ _
    refine NoPanic.normal ?_
    go_wp2
    go_ret
    exact ⟨rfl, HE.out.2.1.trans (HZ.out.mono HE.out.2.1.size)⟩
  · go_simp
    rw [run_make64]
    go_simp
    have hb6 := (Below.refl W4.heap.size W4).alloc (Nat.le_refl _) (.cells (bV z64) 5)
    have HF := Lib.hid (show Below WA.heap.size WA _ ∧ Keys _ ∧ RowB _ _ _ 0 64 z64 from ⟨below_after HG.out.1 hb6 HG.out.1.size, HG.out.2.below hb6, RowB.of_vals (L := z64) (blk_new W4 (.cells (bV z64) 5))⟩)
    generalize W4.alloc (.cells (bV z64) 5) = W6 at *
    refine hK' _ _ HF.out.1 ?_
    clear hK' K'
    go_simp
    refine wpAnyH_one (i := 28) (by kernel_rfl) rfl (by kernel_rfl) (fun K' hK' => ?_)
    go_simp
    refine (chain_any zL zL zL_len zL_len _ HF.out.2.1).mono ?_
    rintro e W5 ⟨rfl, hb5⟩
    rw [bV_dg]
    have HH := Lib.hid (show Below WA.heap.size WA W5 ∧ Keys W5 ∧ RowB W5 _ _ 0 64 z64 from ⟨below_after HF.out.1 hb5 HF.out.1.size, HF.out.2.1.below hb5, HF.out.2.2.below hb5 (Nat.le_refl _)⟩)
    clear hb5
    refine hK' _ _ HH.out.1 ?_
    clear hK' K'
    go_simp
    refine wpAnyH_one (i := 30) (by kernel_rfl) rfl (by kernel_rfl) (fun K' hK' => ?_)
    go_simp
    refine (tagged_any ⟨#[99, 104, 97, 105, 110]⟩ (some ⟨W4.heap.size, 0, none⟩) W4.heap.size 0 64 64 z64 _ HH.out.2.1 HH.out.2.2 (fun h => by cases h) (by decide) (by decide)).mono ?_
    rintro e W7 ⟨rfl, hb7⟩
    rw [bV_dg, show z64 = zL ++ zL from rfl]
    have HZ := Lib.hid (show Below WA.heap.size WA W7 from below_after HH.out.1 hb7 HH.out.1.size)
    clear hb7
    refine hK' _ _ HZ.out ?_
    clear hK' K'
    go_simp
    refine wpAnyH_from (fuel := 0) 31 3 (fun _ _ _ _ _ h => h) (by kernel_rfl) (by decide) (by kernel_rfl) HZ.out ?_
    simp only [List.drop_succ_cons, List.drop_zero, List.take_succ_cons, List.take_zero]
    refine wpHeld_cons (.bool true) (by kernel_rfl) ?_ ?_
    · rintro w' -
      try go_simp
      rw [run_eq_D (dgL (tagS ⟨#[99, 104, 97, 105, 110]⟩ (zL ++ zL))) (dgL (tagS ⟨#[99, 104, 97, 105, 110]⟩ (zL ++ zL))) (dgL_len _) (dgL_len _), decide_eq_true rfl]
      go_simp
    refine wpHeld_cons (.bool true) (by kernel_rfl) ?_ ?_
    · rintro w' -
      try go_simp
    refine wpHeld_cons (.bool true) (by kernel_rfl) ?_ ?_
    · rintro w' -
      try go_simp
    refine wpHeld_nil ?_
    go_simp
    refine wpAnyH_done (by kernel_rfl) ?_ _
    refine NoPanic.normal ?_
    go_wp2
    go_ret
    exact ⟨rfl, HE.out.2.1.trans (HZ.out.mono HE.out.2.1.size)⟩
end Go.Proofs.YthbjjfblapfjdaaDoor
