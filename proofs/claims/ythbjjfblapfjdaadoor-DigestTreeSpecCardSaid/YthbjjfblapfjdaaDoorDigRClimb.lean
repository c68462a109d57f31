/- soundpost/soundpostref02.climb (layer 2). -/
import Derived.Test.YthbjjfblapfjdaaDoorDigClimb
namespace Go.Proofs.YthbjjfblapfjdaaDoor
open Go.ChangeShapes Go.WideShapes Go.ChangeAt Go.RowKit
set_option maxRecDepth 100000 in
set_option maxHeartbeats 4000000 in
theorem rclimb_leaf (d : List Int) (hd : d.length = 32) (i : Nat) (v : Value) (P : List (List Int)) (w : World) : Calls Tryd.prog 42 #[.agg (bV d), .int .i64 i, .int .i64 1, v] w fun e w' => e = .returned (.agg (dgV (climbS d i 1 P))) ∧ Below w.heap.size w w' := by
  rw [climbS_one]
  go_enter Tryd.func42, Tryd.ntmps42
  go_upto_region 1 with fail
  have hb := blk_alloc (blk_new w (.cells (bV d) 26)) (.cells (List.toArray (.int .u8 0 :: .int .u8 0 :: .int .u8 0 :: .int .u8 0 :: .int .u8 0 :: .int .u8 0 :: .int .u8 0 :: .int .u8 0 :: .int .u8 0 :: .int .u8 0 :: .int .u8 0 :: .int .u8 0 :: .int .u8 0 :: .int .u8 0 :: .int .u8 0 :: .int .u8 0 :: .int .u8 0 :: .int .u8 0 :: .int .u8 0 :: .int .u8 0 :: .int .u8 0 :: .int .u8 0 :: .int .u8 0 :: .int .u8 0 :: .int .u8 0 :: .int .u8 0 :: .int .u8 0 :: .int .u8 0 :: .int .u8 0 :: .int .u8 0 :: .int .u8 0 :: .int .u8 0 :: [])) 26)
  have hz := blkN (W := w.alloc (.cells (bV d) 26)) (o := .cells (List.toArray (.int .u8 0 :: .int .u8 0 :: .int .u8 0 :: .int .u8 0 :: .int .u8 0 :: .int .u8 0 :: .int .u8 0 :: .int .u8 0 :: .int .u8 0 :: .int .u8 0 :: .int .u8 0 :: .int .u8 0 :: .int .u8 0 :: .int .u8 0 :: .int .u8 0 :: .int .u8 0 :: .int .u8 0 :: .int .u8 0 :: .int .u8 0 :: .int .u8 0 :: .int .u8 0 :: .int .u8 0 :: .int .u8 0 :: .int .u8 0 :: .int .u8 0 :: .int .u8 0 :: .int .u8 0 :: .int .u8 0 :: .int .u8 0 :: .int .u8 0 :: .int .u8 0 :: .int .u8 0 :: [])) 26) (k := w.heap.size + 1) (by simp)
  have hB : Below w.heap.size w ((w.alloc (.cells (bV d) 26)).alloc (.cells (List.toArray (.int .u8 0 :: .int .u8 0 :: .int .u8 0 :: .int .u8 0 :: .int .u8 0 :: .int .u8 0 :: .int .u8 0 :: .int .u8 0 :: .int .u8 0 :: .int .u8 0 :: .int .u8 0 :: .int .u8 0 :: .int .u8 0 :: .int .u8 0 :: .int .u8 0 :: .int .u8 0 :: .int .u8 0 :: .int .u8 0 :: .int .u8 0 :: .int .u8 0 :: .int .u8 0 :: .int .u8 0 :: .int .u8 0 :: .int .u8 0 :: .int .u8 0 :: .int .u8 0 :: .int .u8 0 :: .int .u8 0 :: .int .u8 0 :: .int .u8 0 :: .int .u8 0 :: .int .u8 0 :: [])) 26)) := ((Below.refl _ _).alloc (Nat.le_refl _) _).alloc (by simp) _
  have HD := Lib.hid (show _ ∧ _ ∧ _ from ⟨hb, hz, hB⟩)
  clear hb hz hB
  generalize (w.alloc (.cells (bV d) 26)).alloc (.cells (List.toArray (.int .u8 0 :: .int .u8 0 :: .int .u8 0 :: .int .u8 0 :: .int .u8 0 :: .int .u8 0 :: .int .u8 0 :: .int .u8 0 :: .int .u8 0 :: .int .u8 0 :: .int .u8 0 :: .int .u8 0 :: .int .u8 0 :: .int .u8 0 :: .int .u8 0 :: .int .u8 0 :: .int .u8 0 :: .int .u8 0 :: .int .u8 0 :: .int .u8 0 :: .int .u8 0 :: .int .u8 0 :: .int .u8 0 :: .int .u8 0 :: .int .u8 0 :: .int .u8 0 :: .int .u8 0 :: .int .u8 0 :: .int .u8 0 :: .int .u8 0 :: .int .u8 0 :: .int .u8 0 :: [])) 26) = W1 at *
  go_wp2_with fail
  refine (rtagged_any ⟨#[108, 101, 97, 102]⟩ _ w.heap.size 0 32 32 d _ (RowB.of_bV hd HD.out.1) (fun h => by cases h) (by decide) (by decide)).mono ?_
  rintro e W5 ⟨rfl, hb5⟩
  have hd5 := blk_below HD.out.2.1 hb5 (Array.getElem?_eq_some_iff.1 HD.out.2.1).1
  have hB5 := below_after HD.out.2.2 hb5 HD.out.2.2.size
  have HG := Lib.hid (show _ ∧ _ from ⟨hd5, hB5⟩)
  clear hd5 hB5 hb5
  go_wp2_with (with_reducible refine held (o := ⟨none, _, _, _, _, _⟩) ?_)
  unfold Held
  refine wpList_store_row rfl _ (.tmp 8) (.tmp 14) rfl (w.heap.size + 1) (dgV (tagS ⟨#[108, 101, 97, 102]⟩ d)) rfl rfl 26 _ HG.out.1 (by rw [dgV_size]; kernel_rfl) (by rw [dgV_size]; rfl) (dgV_one _) ?_
  have hD4 := setRow_heap W5 (w.heap.size + 1) _ (dgV (tagS ⟨#[108, 101, 97, 102]⟩ d)) 26 (0, 0) HG.out.1
  have hB6 := below_setRow HG.out.2 (show w.heap.size ≤ w.heap.size + 1 by omega) (dgV (tagS ⟨#[108, 101, 97, 102]⟩ d))
  generalize W5.setRow (w.heap.size + 1) (dgV (tagS ⟨#[108, 101, 97, 102]⟩ d)) = W6 at *
  go_wp2
  refine bodyPost_ret (v := .agg (dgV (tagS ⟨#[108, 101, 97, 102]⟩ d))) ?_ rfl ⟨rfl, hB6⟩
  exact results_cell_row Tryd.results42 _ _ (w.heap.size + 1) 26 (dgV (tagS ⟨#[108, 101, 97, 102]⟩ d)) (0, 0) _ rfl hD4 Tryd.underlying26 rfl (by rw [dgV_size]; kernel_rfl)
set_option maxRecDepth 100000 in
set_option maxHeartbeats 4000000 in
theorem rclimb_node1 (n i k m : Nat) (hk : k = halfN n) (h1 : 1 < n) (hn : n ≤ 1099511627776) (d : List Int) (hd : d.length = 32) (IH : ∀ n', n' < n → ∀ (i m : Nat) (pa : Option Addr) (pb poff pcap : Nat) (P : List (List Int)) (w : World), i < n' → stepsN i n' = m → DigR w pa pb poff m P → m ≤ pcap → Calls Tryd.prog 42 #[.agg (bV d), .int .i64 i, .int .i64 n', .slice pa m pcap] w fun e w' => e = .returned (.agg (dgV (climbS d i n' P))) ∧ Below w.heap.size w w')
    (pa : Option Addr) (pb poff pcap : Nat) (P : List (List Int)) (w : World) (_hi : i < n) (hik : i < k) (hm : stepsN i n = m + 1) (hP : DigR w pa pb poff (m + 1) P) (hcap : m + 1 ≤ pcap) : Calls Tryd.prog 42 #[.agg (bV d), .int .i64 i, .int .i64 n, .slice pa (m + 1 : Nat) pcap] w fun e w' => e = .returned (.agg (dgV (climbS d i n P))) ∧ Below w.heap.size w w' := by
  obtain rfl := hP.adr (by omega)
  have hT := climbS_low (d := d) (i := i) h1 hk hP.len hik
  have hs := stepsN_low h1 hk hik
  have hm1 := stepsN_lt n i (by omega)
  have HL := Lib.hid (hP.dig m (by omega))
  have HR := Lib.hid (show _ ∧ _ from ⟨hP, IH⟩)
  have hk0 : 0 < k := by rw [hk]; exact halfN_pos n
  have hkn : k < n := by rw [hk]; exact halfN_lt h1
  have HT := Lib.hid hT
  have HS := Lib.hid (show stepsN i k = m by omega)
  rw [hm] at hm1
  clear hT hs hm hP IH
  have i1 : ((n : Int) == 1) = false := by simp; omega
  have i2 : ¬ pcap < m := by omega
  have i8 : m ≤ pcap := by omega
  have i3 : m < m + 1 := by omega
  have i5 : (i : Int) < (k : Int) := by omega
  have i6 : ¬ (m : Int) < 0 := by omega
  have i7 : (m : Int) < ((m + 1 : Nat) : Int) := by omega
  have u0 : IntKind.i64.wrap (((m + 1 : Nat) : Int) - 1) = (m : Int) := (wrap_id (by omega)).trans (by omega)
  have u9 : IntKind.i64.wrap ((m : Int) + 1 - 1) = (m : Int) := (wrap_id (by omega)).trans (by omega)
  have u3 : IntKind.i64.wrap (m : Int) = (m : Int) := wrap_id (by omega)
  have cl := fun W => half_any n h1 (by omega) W
  simp only [← hk] at cl
  clear hk
  go_enter Tryd.func42, Tryd.ntmps42
  go_upto_region 1 with fail
  have hb := blk_alloc (blk_new w (.cells (bV d) 26)) (.cells (List.toArray (.int .u8 0 :: .int .u8 0 :: .int .u8 0 :: .int .u8 0 :: .int .u8 0 :: .int .u8 0 :: .int .u8 0 :: .int .u8 0 :: .int .u8 0 :: .int .u8 0 :: .int .u8 0 :: .int .u8 0 :: .int .u8 0 :: .int .u8 0 :: .int .u8 0 :: .int .u8 0 :: .int .u8 0 :: .int .u8 0 :: .int .u8 0 :: .int .u8 0 :: .int .u8 0 :: .int .u8 0 :: .int .u8 0 :: .int .u8 0 :: .int .u8 0 :: .int .u8 0 :: .int .u8 0 :: .int .u8 0 :: .int .u8 0 :: .int .u8 0 :: .int .u8 0 :: .int .u8 0 :: [])) 26)
  have hz := blkN (W := w.alloc (.cells (bV d) 26)) (o := .cells (List.toArray (.int .u8 0 :: .int .u8 0 :: .int .u8 0 :: .int .u8 0 :: .int .u8 0 :: .int .u8 0 :: .int .u8 0 :: .int .u8 0 :: .int .u8 0 :: .int .u8 0 :: .int .u8 0 :: .int .u8 0 :: .int .u8 0 :: .int .u8 0 :: .int .u8 0 :: .int .u8 0 :: .int .u8 0 :: .int .u8 0 :: .int .u8 0 :: .int .u8 0 :: .int .u8 0 :: .int .u8 0 :: .int .u8 0 :: .int .u8 0 :: .int .u8 0 :: .int .u8 0 :: .int .u8 0 :: .int .u8 0 :: .int .u8 0 :: .int .u8 0 :: .int .u8 0 :: .int .u8 0 :: [])) 26) (k := w.heap.size + 1) (by simp)
  have hB : Below w.heap.size w ((w.alloc (.cells (bV d) 26)).alloc (.cells (List.toArray (.int .u8 0 :: .int .u8 0 :: .int .u8 0 :: .int .u8 0 :: .int .u8 0 :: .int .u8 0 :: .int .u8 0 :: .int .u8 0 :: .int .u8 0 :: .int .u8 0 :: .int .u8 0 :: .int .u8 0 :: .int .u8 0 :: .int .u8 0 :: .int .u8 0 :: .int .u8 0 :: .int .u8 0 :: .int .u8 0 :: .int .u8 0 :: .int .u8 0 :: .int .u8 0 :: .int .u8 0 :: .int .u8 0 :: .int .u8 0 :: .int .u8 0 :: .int .u8 0 :: .int .u8 0 :: .int .u8 0 :: .int .u8 0 :: .int .u8 0 :: .int .u8 0 :: .int .u8 0 :: [])) 26)) := ((Below.refl _ _).alloc (Nat.le_refl _) _).alloc (by simp) _
  have hsz : ((w.alloc (.cells (bV d) 26)).alloc (.cells (List.toArray (.int .u8 0 :: .int .u8 0 :: .int .u8 0 :: .int .u8 0 :: .int .u8 0 :: .int .u8 0 :: .int .u8 0 :: .int .u8 0 :: .int .u8 0 :: .int .u8 0 :: .int .u8 0 :: .int .u8 0 :: .int .u8 0 :: .int .u8 0 :: .int .u8 0 :: .int .u8 0 :: .int .u8 0 :: .int .u8 0 :: .int .u8 0 :: .int .u8 0 :: .int .u8 0 :: .int .u8 0 :: .int .u8 0 :: .int .u8 0 :: .int .u8 0 :: .int .u8 0 :: .int .u8 0 :: .int .u8 0 :: .int .u8 0 :: .int .u8 0 :: .int .u8 0 :: .int .u8 0 :: [])) 26)).heap.size = w.heap.size + 2 := by simp
  have HD := Lib.hid (show _ ∧ _ ∧ _ from ⟨hb, hz, hB⟩)
  have HZ := Lib.hid (Nat.le_of_eq hsz.symm)
  clear hb hz hB hsz
  generalize (w.alloc (.cells (bV d) 26)).alloc (.cells (List.toArray (.int .u8 0 :: .int .u8 0 :: .int .u8 0 :: .int .u8 0 :: .int .u8 0 :: .int .u8 0 :: .int .u8 0 :: .int .u8 0 :: .int .u8 0 :: .int .u8 0 :: .int .u8 0 :: .int .u8 0 :: .int .u8 0 :: .int .u8 0 :: .int .u8 0 :: .int .u8 0 :: .int .u8 0 :: .int .u8 0 :: .int .u8 0 :: .int .u8 0 :: .int .u8 0 :: .int .u8 0 :: .int .u8 0 :: .int .u8 0 :: .int .u8 0 :: .int .u8 0 :: .int .u8 0 :: .int .u8 0 :: .int .u8 0 :: .int .u8 0 :: .int .u8 0 :: .int .u8 0 :: [])) 26) = W1 at *
  go_upto_region 4 with (go_at_call 35; refine (cl _).mono ?_; rintro e w' ⟨rfl, hw'⟩; subst w')
  go_wp2_with (with_reducible refine held (o := ⟨some 22, _, _, _, _, _⟩) ?_)
  unfold Held
  refine wpList_load_mid rfl 26 (.tmp 21) rfl pb (poff + m * 32) (by kernel_rfl) _ _ ((HR.out.1.below HD.out.2.2 (Nat.le_refl _)).elem (Nat.lt_succ_self _)).range Tryd.underlying26 rfl (by rw [List.length_map, HL.out]; kernel_rfl) ?_
  go_wp2_with (with_reducible refine held (o := ⟨none, _, _, _, _, _⟩) ?_)
  unfold Held
  have hY := HZ.out
  have hnew := blk_new W1 (.cells (List.toArray (.int .u8 0 :: .int .u8 0 :: .int .u8 0 :: .int .u8 0 :: .int .u8 0 :: .int .u8 0 :: .int .u8 0 :: .int .u8 0 :: .int .u8 0 :: .int .u8 0 :: .int .u8 0 :: .int .u8 0 :: .int .u8 0 :: .int .u8 0 :: .int .u8 0 :: .int .u8 0 :: .int .u8 0 :: .int .u8 0 :: .int .u8 0 :: .int .u8 0 :: .int .u8 0 :: .int .u8 0 :: .int .u8 0 :: .int .u8 0 :: .int .u8 0 :: .int .u8 0 :: .int .u8 0 :: .int .u8 0 :: .int .u8 0 :: .int .u8 0 :: .int .u8 0 :: .int .u8 0 :: [])) 26)
  have hb1 := (Below.refl W1.heap.size W1).alloc (Nat.le_refl _) (.cells (List.toArray (.int .u8 0 :: .int .u8 0 :: .int .u8 0 :: .int .u8 0 :: .int .u8 0 :: .int .u8 0 :: .int .u8 0 :: .int .u8 0 :: .int .u8 0 :: .int .u8 0 :: .int .u8 0 :: .int .u8 0 :: .int .u8 0 :: .int .u8 0 :: .int .u8 0 :: .int .u8 0 :: .int .u8 0 :: .int .u8 0 :: .int .u8 0 :: .int .u8 0 :: .int .u8 0 :: .int .u8 0 :: .int .u8 0 :: .int .u8 0 :: .int .u8 0 :: .int .u8 0 :: .int .u8 0 :: .int .u8 0 :: .int .u8 0 :: .int .u8 0 :: .int .u8 0 :: .int .u8 0 :: [])) 26)
  refine wpList_store_row rfl 26 (.tmp 10) (.tmp 22) rfl W1.heap.size (bV (P.getD m [])) (by kernel_rfl) (by kernel_rfl) 26 _ hnew (by rw [bV_size, HL.out]; kernel_rfl) (by rw [bV_size, HL.out]; rfl) (bV_one _) ?_
  have hQ := setRow_heap _ W1.heap.size _ (bV (P.getD m [])) 26 (0, 0) hnew
  have hb2 := below_setRow hb1 (Nat.le_refl _) (bV (P.getD m []))
  have HY := Lib.hid (show w.heap.size + 2 ≤ W1.heap.size from HZ.out)
  generalize (W1.alloc (.cells (List.toArray (.int .u8 0 :: .int .u8 0 :: .int .u8 0 :: .int .u8 0 :: .int .u8 0 :: .int .u8 0 :: .int .u8 0 :: .int .u8 0 :: .int .u8 0 :: .int .u8 0 :: .int .u8 0 :: .int .u8 0 :: .int .u8 0 :: .int .u8 0 :: .int .u8 0 :: .int .u8 0 :: .int .u8 0 :: .int .u8 0 :: .int .u8 0 :: .int .u8 0 :: .int .u8 0 :: .int .u8 0 :: .int .u8 0 :: .int .u8 0 :: .int .u8 0 :: .int .u8 0 :: .int .u8 0 :: .int .u8 0 :: .int .u8 0 :: .int .u8 0 :: .int .u8 0 :: .int .u8 0 :: [])) 26)).setRow W1.heap.size (bV (P.getD m [])) = W0 at *
  have HD := Lib.hid (show _ ∧ _ ∧ Below w.heap.size w W0 from ⟨blk_below HD.out.1 hb2 (Array.getElem?_eq_some_iff.1 HD.out.1).1, blk_below HD.out.2.1 hb2 (Array.getElem?_eq_some_iff.1 HD.out.2.1).1, HD.out.2.2.trans (hb2.mono HD.out.2.2.size)⟩)
  have HZ := Lib.hid (show w.heap.size + 2 ≤ W0.heap.size from Nat.le_trans HY.out hb2.size)
  have HQ := Lib.hid hQ
  have hs1 : ∀ w', Below W0.heap.size W0 w' → Below (w.heap.size + 1) W0 w' ∧ w'.heap[W1.heap.size]? = some (.cells (bV (P.getD m [])) 26 (0, 0)) := fun w' h => ⟨h.mono (Nat.le_of_succ_le HZ.out), blk_below HQ.out h (Array.getElem?_eq_some_iff.1 HQ.out).1⟩
  clear hb1 hb2 hnew hQ hY
  go_upto_region 6 with fail
  refine wp_region_from 0 8 (fun w' => Below (w.heap.size + 1) W0 w' ∧ w'.heap[W1.heap.size]? = some (.cells (bV (P.getD m [])) 26 (0, 0))) (by kernel_rfl) (by kernel_rfl) (by decide) (by kernel_rfl) (hs1 _ (Below.refl _ _).drew) ?_
  simp only [List.drop_zero, List.take_succ_cons, List.take_zero]
  refine wpHeld_load (.tmp 4) (by kernel_rfl) (by kernel_rfl) (w.heap.size) (0) (by kernel_rfl) d hd (fun w' hS => (RowB.of_bV hd (blk_below HD.out.1 hS.1 (Nat.lt_succ_self _))).range) ?_
  refine wpHeld_cons ((.int .i64 i)) (by kernel_rfl) ?_ ?_
  · rintro w' -
    try go_simp
  refine wpHeld_cons ((.int .i64 k)) (by kernel_rfl) ?_ ?_
  · rintro w' -
    try go_simp
  refine wpHeld_cons ((.slice (some ⟨pb, poff, none⟩) (m + 1 : Nat) pcap)) (by kernel_rfl) ?_ ?_
  · rintro w' -
    try go_simp
  refine wpHeld_cons ((.slice (some ⟨pb, poff, none⟩) (m + 1 : Nat) pcap)) (by kernel_rfl) ?_ ?_
  · rintro w' -
    try go_simp
  refine wpHeld_cons ((.int .i64 (m + 1 : Nat))) (by kernel_rfl) ?_ ?_
  · rintro w' -
    try go_simp
  refine wpHeld_cons ((.int .i64 m)) (by kernel_rfl) ?_ ?_
  · rintro w' -
    try go_simp
  refine wpHeld_cons ((.slice (some ⟨pb, poff, none⟩) m pcap)) (by kernel_rfl) ?_ ?_
  · rintro w' -
    try go_simp
  refine wpHeld_nil ?_
  refine wpAnyH_from (fuel := 3) 9 1 (fun _ _ _ _ _ h => h) (by kernel_rfl) (by decide) (by kernel_rfl) (hs1 _ (Below.refl _ _).drew) ?_
  simp only [List.drop_succ_cons, List.drop_zero, List.take_succ_cons, List.take_zero]
  refine wpHeld_load (.tmp 10) (by kernel_rfl) (by kernel_rfl) (W1.heap.size) (0) (by kernel_rfl) (P.getD m []) HL.out (fun w' hS => (RowB.of_bV HL.out hS.2).range) ?_
  refine wpHeld_nil ?_
  go_simp
  refine wpAnyH_one (i := 8) (by kernel_rfl) rfl (by kernel_rfl) (fun K' hK' => ?_)
  go_simp
  have hb0 : Below W0.heap.size W0 W0.drew := (Below.refl _ _).drew
  refine (HR.out.2 k hkn i m (some ⟨pb, poff, none⟩) pb poff pcap (P.take m) _ hik HS.out ((HR.out.1.below HD.out.2.2.drew (Nat.le_refl _)).take0 (by omega)) (by omega)).mono ?_
  rintro e W2 ⟨rfl, hb2⟩
  rw [bV_dg]
  have hb2' := below_after hb0 hb2 (Nat.le_refl _)
  have HB2 := Lib.hid (show Below W0.heap.size W0 W2 ∧ _ from ⟨hb2', blk_below HD.out.2.1 hb2' (Array.getElem?_eq_some_iff.1 HD.out.2.1).1⟩)
  clear hb0 hb2 hb2'
  go_simp
  refine hK' _ _ (hs1 _ HB2.out.1) ?_
  clear hK' K'
  refine wpAnyH_one (i := 10) (by kernel_rfl) rfl (by kernel_rfl) (fun K' hK' => ?_)
  go_simp
  refine (node_any (dgL (climbS d i k (P.take m))) (P.getD m []) (dgL_len _) HL.out _).mono ?_
  rintro e W3 ⟨rfl, hb3⟩
  have hb3' := below_after HB2.out.1 hb3 HB2.out.1.size
  have HG := Lib.hid (show Below W0.heap.size W0 W3 ∧ _ from ⟨hb3', blk_below HB2.out.2 hb3 (Array.getElem?_eq_some_iff.1 HB2.out.2).1⟩)
  clear hb3 hb3'
  rw [← HT.out] at *
  refine hK' _ _ (hs1 _ HG.out.1) ?_
  clear hK' K'
  refine wpAnyH_one (i := 11) (by kernel_rfl) rfl (by kernel_rfl) (fun K' hK' => ?_)
  refine wp_store_row 26 (.tmp 8) (.tmp 36) rfl (w.heap.size + 1) (dgV (climbS d i n P)) rfl rfl 26 _ HG.out.2 (by rw [dgV_size]; kernel_rfl) (by rw [dgV_size]; rfl) (dgV_one _) ?_
  have hD4 := setRow_heap W3 (w.heap.size + 1) _ (dgV (climbS d i n P)) 26 (0, 0) HG.out.2
  have hB6 := below_setRow (HD.out.2.2.trans (HG.out.1.mono HD.out.2.2.size)) (show w.heap.size ≤ w.heap.size + 1 by omega) (dgV (climbS d i n P))
  have hBS := below_setRow (HG.out.1.mono (Nat.le_of_succ_le HZ.out)) (Nat.le_refl _) (dgV (climbS d i n P))
  have hBQ := (setRow_other W3 (w.heap.size + 1) W1.heap.size (dgV (climbS d i n P)) (by have := HY.out; omega)).trans (hs1 _ HG.out.1).2
  generalize W3.setRow (w.heap.size + 1) (dgV (climbS d i n P)) = W6 at *
  go_simp
  refine hK' _ _ ⟨hBS, hBQ⟩ ?_
  clear hK' K'
  refine wpAnyH_done (by kernel_rfl) ?_ _
  refine NoPanic.normal ?_
  go_wp2
  refine bodyPost_ret (v := .agg (dgV (climbS d i n P))) ?_ rfl ⟨rfl, hB6⟩
  exact results_cell_row Tryd.results42 _ _ (w.heap.size + 1) 26 (dgV (climbS d i n P)) (0, 0) _ rfl hD4 Tryd.underlying26 rfl (by rw [dgV_size]; kernel_rfl)
set_option maxRecDepth 100000 in
set_option maxHeartbeats 4000000 in
theorem rclimb_node2 (n i k m : Nat) (hk : k = halfN n) (h1 : 1 < n) (hn : n ≤ 1099511627776) (d : List Int) (hd : d.length = 32) (IH : ∀ n', n' < n → ∀ (i m : Nat) (pa : Option Addr) (pb poff pcap : Nat) (P : List (List Int)) (w : World), i < n' → stepsN i n' = m → DigR w pa pb poff m P → m ≤ pcap → Calls Tryd.prog 42 #[.agg (bV d), .int .i64 i, .int .i64 n', .slice pa m pcap] w fun e w' => e = .returned (.agg (dgV (climbS d i n' P))) ∧ Below w.heap.size w w')
    (pa : Option Addr) (pb poff pcap : Nat) (P : List (List Int)) (w : World) (hi : i < n) (hik : k ≤ i) (hm : stepsN i n = m + 1) (hP : DigR w pa pb poff (m + 1) P) (hcap : m + 1 ≤ pcap) : Calls Tryd.prog 42 #[.agg (bV d), .int .i64 i, .int .i64 n, .slice pa (m + 1 : Nat) pcap] w fun e w' => e = .returned (.agg (dgV (climbS d i n P))) ∧ Below w.heap.size w w' := by
  obtain rfl := hP.adr (by omega)
  have hT := climbS_high (d := d) (i := i) h1 hk hP.len hik
  have hs := stepsN_high h1 hk hik
  have hm1 := stepsN_lt n i (by omega)
  have HL := Lib.hid (hP.dig m (by omega))
  have HR := Lib.hid (show _ ∧ _ from ⟨hP, IH⟩)
  have hk0 : 0 < k := by rw [hk]; exact halfN_pos n
  have hkn : k < n := by rw [hk]; exact halfN_lt h1
  have HT := Lib.hid hT
  have HS := Lib.hid (show stepsN (i - k) (n - k) = m by omega)
  rw [hm] at hm1
  clear hT hs hm hP IH
  have i1 : ((n : Int) == 1) = false := by simp; omega
  have i2 : ¬ pcap < m := by omega
  have i8 : m ≤ pcap := by omega
  have i3 : m < m + 1 := by omega
  have i5 : ¬ (i : Int) < (k : Int) := by omega
  have i6 : ¬ (m : Int) < 0 := by omega
  have i7 : (m : Int) < ((m + 1 : Nat) : Int) := by omega
  have u0 : IntKind.i64.wrap (((m + 1 : Nat) : Int) - 1) = (m : Int) := (wrap_id (by omega)).trans (by omega)
  have u9 : IntKind.i64.wrap ((m : Int) + 1 - 1) = (m : Int) := (wrap_id (by omega)).trans (by omega)
  have u1 : IntKind.i64.wrap ((i : Int) - (k : Int)) = ((i - k : Nat) : Int) := (wrap_id (by omega)).trans (by omega)
  have u2 : IntKind.i64.wrap ((n : Int) - (k : Int)) = ((n - k : Nat) : Int) := (wrap_id (by omega)).trans (by omega)
  have u3 : IntKind.i64.wrap (m : Int) = (m : Int) := wrap_id (by omega)
  have cl := fun W => half_any n h1 (by omega) W
  simp only [← hk] at cl
  clear hk
  go_enter Tryd.func42, Tryd.ntmps42
  go_upto_region 1 with fail
  have hb := blk_alloc (blk_new w (.cells (bV d) 26)) (.cells (List.toArray (.int .u8 0 :: .int .u8 0 :: .int .u8 0 :: .int .u8 0 :: .int .u8 0 :: .int .u8 0 :: .int .u8 0 :: .int .u8 0 :: .int .u8 0 :: .int .u8 0 :: .int .u8 0 :: .int .u8 0 :: .int .u8 0 :: .int .u8 0 :: .int .u8 0 :: .int .u8 0 :: .int .u8 0 :: .int .u8 0 :: .int .u8 0 :: .int .u8 0 :: .int .u8 0 :: .int .u8 0 :: .int .u8 0 :: .int .u8 0 :: .int .u8 0 :: .int .u8 0 :: .int .u8 0 :: .int .u8 0 :: .int .u8 0 :: .int .u8 0 :: .int .u8 0 :: .int .u8 0 :: [])) 26)
  have hz := blkN (W := w.alloc (.cells (bV d) 26)) (o := .cells (List.toArray (.int .u8 0 :: .int .u8 0 :: .int .u8 0 :: .int .u8 0 :: .int .u8 0 :: .int .u8 0 :: .int .u8 0 :: .int .u8 0 :: .int .u8 0 :: .int .u8 0 :: .int .u8 0 :: .int .u8 0 :: .int .u8 0 :: .int .u8 0 :: .int .u8 0 :: .int .u8 0 :: .int .u8 0 :: .int .u8 0 :: .int .u8 0 :: .int .u8 0 :: .int .u8 0 :: .int .u8 0 :: .int .u8 0 :: .int .u8 0 :: .int .u8 0 :: .int .u8 0 :: .int .u8 0 :: .int .u8 0 :: .int .u8 0 :: .int .u8 0 :: .int .u8 0 :: .int .u8 0 :: [])) 26) (k := w.heap.size + 1) (by simp)
  have hB : Below w.heap.size w ((w.alloc (.cells (bV d) 26)).alloc (.cells (List.toArray (.int .u8 0 :: .int .u8 0 :: .int .u8 0 :: .int .u8 0 :: .int .u8 0 :: .int .u8 0 :: .int .u8 0 :: .int .u8 0 :: .int .u8 0 :: .int .u8 0 :: .int .u8 0 :: .int .u8 0 :: .int .u8 0 :: .int .u8 0 :: .int .u8 0 :: .int .u8 0 :: .int .u8 0 :: .int .u8 0 :: .int .u8 0 :: .int .u8 0 :: .int .u8 0 :: .int .u8 0 :: .int .u8 0 :: .int .u8 0 :: .int .u8 0 :: .int .u8 0 :: .int .u8 0 :: .int .u8 0 :: .int .u8 0 :: .int .u8 0 :: .int .u8 0 :: .int .u8 0 :: [])) 26)) := ((Below.refl _ _).alloc (Nat.le_refl _) _).alloc (by simp) _
  have hsz : ((w.alloc (.cells (bV d) 26)).alloc (.cells (List.toArray (.int .u8 0 :: .int .u8 0 :: .int .u8 0 :: .int .u8 0 :: .int .u8 0 :: .int .u8 0 :: .int .u8 0 :: .int .u8 0 :: .int .u8 0 :: .int .u8 0 :: .int .u8 0 :: .int .u8 0 :: .int .u8 0 :: .int .u8 0 :: .int .u8 0 :: .int .u8 0 :: .int .u8 0 :: .int .u8 0 :: .int .u8 0 :: .int .u8 0 :: .int .u8 0 :: .int .u8 0 :: .int .u8 0 :: .int .u8 0 :: .int .u8 0 :: .int .u8 0 :: .int .u8 0 :: .int .u8 0 :: .int .u8 0 :: .int .u8 0 :: .int .u8 0 :: .int .u8 0 :: [])) 26)).heap.size = w.heap.size + 2 := by simp
  have HD := Lib.hid (show _ ∧ _ ∧ _ from ⟨hb, hz, hB⟩)
  have HZ := Lib.hid (Nat.le_of_eq hsz.symm)
  clear hb hz hB hsz
  generalize (w.alloc (.cells (bV d) 26)).alloc (.cells (List.toArray (.int .u8 0 :: .int .u8 0 :: .int .u8 0 :: .int .u8 0 :: .int .u8 0 :: .int .u8 0 :: .int .u8 0 :: .int .u8 0 :: .int .u8 0 :: .int .u8 0 :: .int .u8 0 :: .int .u8 0 :: .int .u8 0 :: .int .u8 0 :: .int .u8 0 :: .int .u8 0 :: .int .u8 0 :: .int .u8 0 :: .int .u8 0 :: .int .u8 0 :: .int .u8 0 :: .int .u8 0 :: .int .u8 0 :: .int .u8 0 :: .int .u8 0 :: .int .u8 0 :: .int .u8 0 :: .int .u8 0 :: .int .u8 0 :: .int .u8 0 :: .int .u8 0 :: .int .u8 0 :: [])) 26) = W1 at *
  go_upto_region 4 with (go_at_call 35; refine (cl _).mono ?_; rintro e w' ⟨rfl, hw'⟩; subst w')
  go_wp2_with (with_reducible refine held (o := ⟨some 22, _, _, _, _, _⟩) ?_)
  unfold Held
  refine wpList_load_mid rfl 26 (.tmp 21) rfl pb (poff + m * 32) (by kernel_rfl) _ _ ((HR.out.1.below HD.out.2.2 (Nat.le_refl _)).elem (Nat.lt_succ_self _)).range Tryd.underlying26 rfl (by rw [List.length_map, HL.out]; kernel_rfl) ?_
  go_wp2_with (with_reducible refine held (o := ⟨none, _, _, _, _, _⟩) ?_)
  unfold Held
  have hY := HZ.out
  have hnew := blk_new W1 (.cells (List.toArray (.int .u8 0 :: .int .u8 0 :: .int .u8 0 :: .int .u8 0 :: .int .u8 0 :: .int .u8 0 :: .int .u8 0 :: .int .u8 0 :: .int .u8 0 :: .int .u8 0 :: .int .u8 0 :: .int .u8 0 :: .int .u8 0 :: .int .u8 0 :: .int .u8 0 :: .int .u8 0 :: .int .u8 0 :: .int .u8 0 :: .int .u8 0 :: .int .u8 0 :: .int .u8 0 :: .int .u8 0 :: .int .u8 0 :: .int .u8 0 :: .int .u8 0 :: .int .u8 0 :: .int .u8 0 :: .int .u8 0 :: .int .u8 0 :: .int .u8 0 :: .int .u8 0 :: .int .u8 0 :: [])) 26)
  have hb1 := (Below.refl W1.heap.size W1).alloc (Nat.le_refl _) (.cells (List.toArray (.int .u8 0 :: .int .u8 0 :: .int .u8 0 :: .int .u8 0 :: .int .u8 0 :: .int .u8 0 :: .int .u8 0 :: .int .u8 0 :: .int .u8 0 :: .int .u8 0 :: .int .u8 0 :: .int .u8 0 :: .int .u8 0 :: .int .u8 0 :: .int .u8 0 :: .int .u8 0 :: .int .u8 0 :: .int .u8 0 :: .int .u8 0 :: .int .u8 0 :: .int .u8 0 :: .int .u8 0 :: .int .u8 0 :: .int .u8 0 :: .int .u8 0 :: .int .u8 0 :: .int .u8 0 :: .int .u8 0 :: .int .u8 0 :: .int .u8 0 :: .int .u8 0 :: .int .u8 0 :: [])) 26)
  refine wpList_store_row rfl 26 (.tmp 10) (.tmp 22) rfl W1.heap.size (bV (P.getD m [])) (by kernel_rfl) (by kernel_rfl) 26 _ hnew (by rw [bV_size, HL.out]; kernel_rfl) (by rw [bV_size, HL.out]; rfl) (bV_one _) ?_
  have hQ := setRow_heap _ W1.heap.size _ (bV (P.getD m [])) 26 (0, 0) hnew
  have hb2 := below_setRow hb1 (Nat.le_refl _) (bV (P.getD m []))
  have HY := Lib.hid (show w.heap.size + 2 ≤ W1.heap.size from HZ.out)
  generalize (W1.alloc (.cells (List.toArray (.int .u8 0 :: .int .u8 0 :: .int .u8 0 :: .int .u8 0 :: .int .u8 0 :: .int .u8 0 :: .int .u8 0 :: .int .u8 0 :: .int .u8 0 :: .int .u8 0 :: .int .u8 0 :: .int .u8 0 :: .int .u8 0 :: .int .u8 0 :: .int .u8 0 :: .int .u8 0 :: .int .u8 0 :: .int .u8 0 :: .int .u8 0 :: .int .u8 0 :: .int .u8 0 :: .int .u8 0 :: .int .u8 0 :: .int .u8 0 :: .int .u8 0 :: .int .u8 0 :: .int .u8 0 :: .int .u8 0 :: .int .u8 0 :: .int .u8 0 :: .int .u8 0 :: .int .u8 0 :: [])) 26)).setRow W1.heap.size (bV (P.getD m [])) = W0 at *
  have HD := Lib.hid (show _ ∧ _ ∧ Below w.heap.size w W0 from ⟨blk_below HD.out.1 hb2 (Array.getElem?_eq_some_iff.1 HD.out.1).1, blk_below HD.out.2.1 hb2 (Array.getElem?_eq_some_iff.1 HD.out.2.1).1, HD.out.2.2.trans (hb2.mono HD.out.2.2.size)⟩)
  have HZ := Lib.hid (show w.heap.size + 2 ≤ W0.heap.size from Nat.le_trans HY.out hb2.size)
  have HQ := Lib.hid hQ
  have hs1 : ∀ w', Below W0.heap.size W0 w' → Below (w.heap.size + 1) W0 w' ∧ w'.heap[W1.heap.size]? = some (.cells (bV (P.getD m [])) 26 (0, 0)) := fun w' h => ⟨h.mono (Nat.le_of_succ_le HZ.out), blk_below HQ.out h (Array.getElem?_eq_some_iff.1 HQ.out).1⟩
  clear hb1 hb2 hnew hQ hY
  go_upto_region 7 with fail
  refine wp_region_from 0 13 (fun w' => Below (w.heap.size + 1) W0 w' ∧ w'.heap[W1.heap.size]? = some (.cells (bV (P.getD m [])) 26 (0, 0))) (by kernel_rfl) (by kernel_rfl) (by decide) (by kernel_rfl) (hs1 _ (Below.refl _ _).drew) ?_
  simp only [List.drop_zero, List.take_succ_cons, List.take_zero]
  refine wpHeld_load (.tmp 10) (by kernel_rfl) (by kernel_rfl) (W1.heap.size) (0) (by kernel_rfl) (P.getD m []) HL.out (fun w' hS => (RowB.of_bV HL.out hS.2).range) ?_
  refine wpHeld_load (.tmp 4) (by kernel_rfl) (by kernel_rfl) (w.heap.size) (0) (by kernel_rfl) d hd (fun w' hS => (RowB.of_bV hd (blk_below HD.out.1 hS.1 (Nat.lt_succ_self _))).range) ?_
  refine wpHeld_cons ((.int .i64 i)) (by kernel_rfl) ?_ ?_
  · rintro w' -
    try go_simp
  refine wpHeld_cons ((.int .i64 k)) (by kernel_rfl) ?_ ?_
  · rintro w' -
    try go_simp
  refine wpHeld_cons ((.int .i64 (i - k : Nat))) (by kernel_rfl) ?_ ?_
  · rintro w' -
    try go_simp
  refine wpHeld_cons ((.int .i64 n)) (by kernel_rfl) ?_ ?_
  · rintro w' -
    try go_simp
  refine wpHeld_cons ((.int .i64 k)) (by kernel_rfl) ?_ ?_
  · rintro w' -
    try go_simp
  refine wpHeld_cons ((.int .i64 (n - k : Nat))) (by kernel_rfl) ?_ ?_
  · rintro w' -
    try go_simp
  refine wpHeld_cons ((.slice (some ⟨pb, poff, none⟩) (m + 1 : Nat) pcap)) (by kernel_rfl) ?_ ?_
  · rintro w' -
    try go_simp
  refine wpHeld_cons ((.slice (some ⟨pb, poff, none⟩) (m + 1 : Nat) pcap)) (by kernel_rfl) ?_ ?_
  · rintro w' -
    try go_simp
  refine wpHeld_cons ((.int .i64 (m + 1 : Nat))) (by kernel_rfl) ?_ ?_
  · rintro w' -
    try go_simp
  refine wpHeld_cons ((.int .i64 m)) (by kernel_rfl) ?_ ?_
  · rintro w' -
    try go_simp
  refine wpHeld_cons ((.slice (some ⟨pb, poff, none⟩) m pcap)) (by kernel_rfl) ?_ ?_
  · rintro w' -
    try go_simp
  refine wpHeld_nil ?_
  go_simp
  refine wpAnyH_one (i := 13) (by kernel_rfl) rfl (by kernel_rfl) (fun K' hK' => ?_)
  go_simp
  have hb0 : Below W0.heap.size W0 W0.drew := (Below.refl _ _).drew
  refine (HR.out.2 (n - k) (by omega) (i - k) m (some ⟨pb, poff, none⟩) pb poff pcap (P.take m) _ (by omega) HS.out ((HR.out.1.below HD.out.2.2.drew (Nat.le_refl _)).take0 (by omega)) (by omega)).mono ?_
  rintro e W2 ⟨rfl, hb2⟩
  rw [bV_dg]
  have hb2' := below_after hb0 hb2 (Nat.le_refl _)
  have HB2 := Lib.hid (show Below W0.heap.size W0 W2 ∧ _ from ⟨hb2', blk_below HD.out.2.1 hb2' (Array.getElem?_eq_some_iff.1 HD.out.2.1).1⟩)
  clear hb0 hb2 hb2'
  go_simp
  refine hK' _ _ (hs1 _ HB2.out.1) ?_
  clear hK' K'
  refine wpAnyH_one (i := 14) (by kernel_rfl) rfl (by kernel_rfl) (fun K' hK' => ?_)
  go_simp
  refine (node_any (P.getD m []) (dgL (climbS d (i - k) (n - k) (P.take m))) HL.out (dgL_len _) _).mono ?_
  rintro e W3 ⟨rfl, hb3⟩
  have hb3' := below_after HB2.out.1 hb3 HB2.out.1.size
  have HG := Lib.hid (show Below W0.heap.size W0 W3 ∧ _ from ⟨hb3', blk_below HB2.out.2 hb3 (Array.getElem?_eq_some_iff.1 HB2.out.2).1⟩)
  clear hb3 hb3'
  rw [← HT.out] at *
  refine hK' _ _ (hs1 _ HG.out.1) ?_
  clear hK' K'
  refine wpAnyH_one (i := 15) (by kernel_rfl) rfl (by kernel_rfl) (fun K' hK' => ?_)
  refine wp_store_row 26 (.tmp 8) (.tmp 51) rfl (w.heap.size + 1) (dgV (climbS d i n P)) rfl rfl 26 _ HG.out.2 (by rw [dgV_size]; kernel_rfl) (by rw [dgV_size]; rfl) (dgV_one _) ?_
  have hD4 := setRow_heap W3 (w.heap.size + 1) _ (dgV (climbS d i n P)) 26 (0, 0) HG.out.2
  have hB6 := below_setRow (HD.out.2.2.trans (HG.out.1.mono HD.out.2.2.size)) (show w.heap.size ≤ w.heap.size + 1 by omega) (dgV (climbS d i n P))
  have hBS := below_setRow (HG.out.1.mono (Nat.le_of_succ_le HZ.out)) (Nat.le_refl _) (dgV (climbS d i n P))
  have hBQ := (setRow_other W3 (w.heap.size + 1) W1.heap.size (dgV (climbS d i n P)) (by have := HY.out; omega)).trans (hs1 _ HG.out.1).2
  generalize W3.setRow (w.heap.size + 1) (dgV (climbS d i n P)) = W6 at *
  go_simp
  refine hK' _ _ ⟨hBS, hBQ⟩ ?_
  clear hK' K'
  refine wpAnyH_done (by kernel_rfl) ?_ _
  refine NoPanic.normal ?_
  go_wp2
  refine bodyPost_ret (v := .agg (dgV (climbS d i n P))) ?_ rfl ⟨rfl, hB6⟩
  exact results_cell_row Tryd.results42 _ _ (w.heap.size + 1) 26 (dgV (climbS d i n P)) (0, 0) _ rfl hD4 Tryd.underlying26 rfl (by rw [dgV_size]; kernel_rfl)
theorem rclimb_any (d : List Int) (hd : d.length = 32) : ∀ (n : Nat), n ≤ 1099511627776 → ∀ (i m : Nat) (pa : Option Addr) (pb poff pcap : Nat) (P : List (List Int)) (w : World), i < n → stepsN i n = m → DigR w pa pb poff m P → m ≤ pcap → Calls Tryd.prog 42 #[.agg (bV d), .int .i64 i, .int .i64 n, .slice pa m pcap] w fun e w' => e = .returned (.agg (dgV (climbS d i n P))) ∧ Below w.heap.size w w' := by
  intro n
  induction n using Nat.strongRecOn with
  | ind n ih =>
    intro hn i m pa pb poff pcap P w hi hm hP hc
    by_cases h1 : 1 < n
    · have IH := fun n' hn' i m pa pb poff pcap P w hi hm hP hc => ih n' hn' (by omega) i m pa pb poff pcap P w hi hm hP hc
      by_cases hik : i < halfN n
      · have hs := stepsN_low h1 rfl hik
        obtain ⟨q, rfl⟩ : ∃ q, m = q + 1 := ⟨m - 1, by omega⟩
        exact rclimb_node1 n i _ q rfl h1 hn d hd IH pa pb poff pcap P w hi hik hm hP hc
      · have hs := stepsN_high h1 rfl (by omega : halfN n ≤ i)
        obtain ⟨q, rfl⟩ : ∃ q, m = q + 1 := ⟨m - 1, by omega⟩
        exact rclimb_node2 n i _ q rfl h1 hn d hd IH pa pb poff pcap P w hi (by omega) hm hP hc
    · obtain rfl : n = 1 := by omega
      exact rclimb_leaf d hd i _ P w
end Go.Proofs.YthbjjfblapfjdaaDoor
