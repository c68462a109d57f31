/- The reference's Tree (layer 2): of no element, of one. -/
import Derived.Test.YthbjjfblapfjdaaDoorDigTree
namespace Go.Proofs.YthbjjfblapfjdaaDoor
open Go.ChangeShapes Go.WideShapes Go.ChangeAt Go.RowKit
set_option maxRecDepth 100000 in
set_option maxHeartbeats 4000000 in
theorem rtree_empty (a : Option Addr) (b off cap : Nat) (l : List (List Int)) (w : World) (hR : DigR w a b off 0 l) :
    Calls Tryd.prog 18 #[.slice a 0 cap] w fun e w' => e = .returned (.agg (dgV (treeS l))) ∧ Below w.heap.size w w' := by
  have HR := Lib.hid (show _ ∧ True from ⟨hR, trivial⟩)
  clear hR
  go_enter Tryd.func18, Tryd.ntmps18
  go_upto_region 1 with fail
  have hd := blk_new w (.cells (List.toArray (.int .u8 0 :: .int .u8 0 :: .int .u8 0 :: .int .u8 0 :: .int .u8 0 :: .int .u8 0 :: .int .u8 0 :: .int .u8 0 :: .int .u8 0 :: .int .u8 0 :: .int .u8 0 :: .int .u8 0 :: .int .u8 0 :: .int .u8 0 :: .int .u8 0 :: .int .u8 0 :: .int .u8 0 :: .int .u8 0 :: .int .u8 0 :: .int .u8 0 :: .int .u8 0 :: .int .u8 0 :: .int .u8 0 :: .int .u8 0 :: .int .u8 0 :: .int .u8 0 :: .int .u8 0 :: .int .u8 0 :: .int .u8 0 :: .int .u8 0 :: .int .u8 0 :: .int .u8 0 :: [])) 26)
  have hB : Below w.heap.size w (w.alloc (.cells (List.toArray (.int .u8 0 :: .int .u8 0 :: .int .u8 0 :: .int .u8 0 :: .int .u8 0 :: .int .u8 0 :: .int .u8 0 :: .int .u8 0 :: .int .u8 0 :: .int .u8 0 :: .int .u8 0 :: .int .u8 0 :: .int .u8 0 :: .int .u8 0 :: .int .u8 0 :: .int .u8 0 :: .int .u8 0 :: .int .u8 0 :: .int .u8 0 :: .int .u8 0 :: .int .u8 0 :: .int .u8 0 :: .int .u8 0 :: .int .u8 0 :: .int .u8 0 :: .int .u8 0 :: .int .u8 0 :: .int .u8 0 :: .int .u8 0 :: .int .u8 0 :: .int .u8 0 :: .int .u8 0 :: [])) 26)) := (Below.refl _ _).alloc (Nat.le_refl _) _
  have HD := Lib.hid (show _ ∧ _ from ⟨hd, hB⟩)
  clear hd hB
  generalize w.alloc (.cells (List.toArray (.int .u8 0 :: .int .u8 0 :: .int .u8 0 :: .int .u8 0 :: .int .u8 0 :: .int .u8 0 :: .int .u8 0 :: .int .u8 0 :: .int .u8 0 :: .int .u8 0 :: .int .u8 0 :: .int .u8 0 :: .int .u8 0 :: .int .u8 0 :: .int .u8 0 :: .int .u8 0 :: .int .u8 0 :: .int .u8 0 :: .int .u8 0 :: .int .u8 0 :: .int .u8 0 :: .int .u8 0 :: .int .u8 0 :: .int .u8 0 :: .int .u8 0 :: .int .u8 0 :: .int .u8 0 :: .int .u8 0 :: .int .u8 0 :: .int .u8 0 :: .int .u8 0 :: .int .u8 0 :: [])) 26) = W1 at *
  go_wp2_with fail
  refine (rtagged_any ⟨#[101, 109, 112, 116, 121]⟩ none 0 0 0 0 [] _ ⟨rfl, fun h => by omega, fun h => by omega, fun i hi => by omega⟩ (fun _ => rfl) (by decide) (by decide)).mono ?_
  rintro e W5 ⟨rfl, hb5⟩
  have hd5 := blk_below HD.out.1 hb5 (Array.getElem?_eq_some_iff.1 HD.out.1).1
  have hB5 := below_after HD.out.2 hb5 HD.out.2.size
  have HG := Lib.hid (show _ ∧ _ from ⟨hd5, hB5⟩)
  clear hd5 hB5 hb5
  rw [← treeS_empty HR.out.1.len] at *
  go_wp2_with (with_reducible refine held (o := ⟨none, _, _, _, _, _⟩) ?_)
  unfold Held
  refine wpList_store_row rfl _ (.tmp 2) (.tmp 7) rfl w.heap.size (dgV (treeS l)) rfl rfl 26 _ HG.out.1 (by rw [dgV_size]; kernel_rfl) (by rw [dgV_size]; rfl) (dgV_one _) ?_
  have hD4 := setRow_heap W5 w.heap.size _ (dgV (treeS l)) 26 (0, 0) HG.out.1
  have hB6 := below_setRow HG.out.2 (Nat.le_refl _) (dgV (treeS l))
  generalize W5.setRow w.heap.size (dgV (treeS l)) = W6 at *
  go_wp2
  refine bodyPost_ret (v := .agg (dgV (treeS l))) ?_ rfl ⟨rfl, hB6⟩
  exact results_cell_row Tryd.results18 _ _ w.heap.size 26 (dgV (treeS l)) (0, 0) _ rfl hD4 Tryd.underlying26 rfl (by rw [dgV_size]; kernel_rfl)
set_option maxRecDepth 100000 in
set_option maxHeartbeats 4000000 in
theorem rtree_leaf (a : Option Addr) (b off cap : Nat) (l : List (List Int)) (w : World) (hR : DigR w a b off 1 l) :
    Calls Tryd.prog 18 #[.slice a 1 cap] w fun e w' => e = .returned (.agg (dgV (treeS l))) ∧ Below w.heap.size w w' := by
  have HR := Lib.hid (show _ ∧ True from ⟨hR, trivial⟩)
  clear hR
  go_enter Tryd.func18, Tryd.ntmps18
  go_upto_region 1 with fail
  have hd := blk_new w (.cells (List.toArray (.int .u8 0 :: .int .u8 0 :: .int .u8 0 :: .int .u8 0 :: .int .u8 0 :: .int .u8 0 :: .int .u8 0 :: .int .u8 0 :: .int .u8 0 :: .int .u8 0 :: .int .u8 0 :: .int .u8 0 :: .int .u8 0 :: .int .u8 0 :: .int .u8 0 :: .int .u8 0 :: .int .u8 0 :: .int .u8 0 :: .int .u8 0 :: .int .u8 0 :: .int .u8 0 :: .int .u8 0 :: .int .u8 0 :: .int .u8 0 :: .int .u8 0 :: .int .u8 0 :: .int .u8 0 :: .int .u8 0 :: .int .u8 0 :: .int .u8 0 :: .int .u8 0 :: .int .u8 0 :: [])) 26)
  have hB : Below w.heap.size w (w.alloc (.cells (List.toArray (.int .u8 0 :: .int .u8 0 :: .int .u8 0 :: .int .u8 0 :: .int .u8 0 :: .int .u8 0 :: .int .u8 0 :: .int .u8 0 :: .int .u8 0 :: .int .u8 0 :: .int .u8 0 :: .int .u8 0 :: .int .u8 0 :: .int .u8 0 :: .int .u8 0 :: .int .u8 0 :: .int .u8 0 :: .int .u8 0 :: .int .u8 0 :: .int .u8 0 :: .int .u8 0 :: .int .u8 0 :: .int .u8 0 :: .int .u8 0 :: .int .u8 0 :: .int .u8 0 :: .int .u8 0 :: .int .u8 0 :: .int .u8 0 :: .int .u8 0 :: .int .u8 0 :: .int .u8 0 :: [])) 26)) := (Below.refl _ _).alloc (Nat.le_refl _) _
  have HD := Lib.hid (show _ ∧ _ from ⟨hd, hB⟩)
  clear hd hB
  generalize w.alloc (.cells (List.toArray (.int .u8 0 :: .int .u8 0 :: .int .u8 0 :: .int .u8 0 :: .int .u8 0 :: .int .u8 0 :: .int .u8 0 :: .int .u8 0 :: .int .u8 0 :: .int .u8 0 :: .int .u8 0 :: .int .u8 0 :: .int .u8 0 :: .int .u8 0 :: .int .u8 0 :: .int .u8 0 :: .int .u8 0 :: .int .u8 0 :: .int .u8 0 :: .int .u8 0 :: .int .u8 0 :: .int .u8 0 :: .int .u8 0 :: .int .u8 0 :: .int .u8 0 :: .int .u8 0 :: .int .u8 0 :: .int .u8 0 :: .int .u8 0 :: .int .u8 0 :: .int .u8 0 :: .int .u8 0 :: [])) 26) = W1 at *
  obtain rfl := HR.out.1.adr (by decide)
  have hR1 := HR.out.1.below HD.out.2 (Nat.le_refl _)
  have hE := hR1.elem (i := 0) (by decide)
  rw [show off + 0 * 32 = off by omega] at hE
  go_wp2_with fail
  refine (rtagged_any ⟨#[108, 101, 97, 102]⟩ _ b off 32 32 (l.getD 0 []) _ hE (fun h => by cases h) (by decide) (by decide)).mono ?_
  rintro e W5 ⟨rfl, hb5⟩
  have hd5 := blk_below HD.out.1 hb5 (Array.getElem?_eq_some_iff.1 HD.out.1).1
  have hB5 := below_after HD.out.2 hb5 HD.out.2.size
  have HG := Lib.hid (show _ ∧ _ from ⟨hd5, hB5⟩)
  clear hd5 hB5 hb5
  rw [← treeS_leaf HR.out.1.len] at *
  go_wp2_with (with_reducible refine held (o := ⟨none, _, _, _, _, _⟩) ?_)
  unfold Held
  refine wpList_store_row rfl _ (.tmp 2) (.tmp 14) rfl w.heap.size (dgV (treeS l)) rfl rfl 26 _ HG.out.1 (by rw [dgV_size]; kernel_rfl) (by rw [dgV_size]; rfl) (dgV_one _) ?_
  have hD4 := setRow_heap W5 w.heap.size _ (dgV (treeS l)) 26 (0, 0) HG.out.1
  have hB6 := below_setRow HG.out.2 (Nat.le_refl _) (dgV (treeS l))
  generalize W5.setRow w.heap.size (dgV (treeS l)) = W6 at *
  go_wp2
  refine bodyPost_ret (v := .agg (dgV (treeS l))) ?_ rfl ⟨rfl, hB6⟩
  exact results_cell_row Tryd.results18 _ _ w.heap.size 26 (dgV (treeS l)) (0, 0) _ rfl hD4 Tryd.underlying26 rfl (by rw [dgV_size]; kernel_rfl)
end Go.Proofs.YthbjjfblapfjdaaDoor
/- The reference's Tree (layer 2): of two elements or more. -/
namespace Go.Proofs.YthbjjfblapfjdaaDoor
open Go.ChangeShapes Go.WideShapes Go.ChangeAt Go.RowKit
set_option maxRecDepth 100000 in
set_option maxHeartbeats 4000000 in
theorem rtree_node (n : Nat) (h1 : 1 < n) (hn : n ≤ 100000) (IH : ∀ m, m < n → ∀ (a : Option Addr) (b off cap : Nat) (l : List (List Int)) (w : World), DigR w a b off m l → m ≤ cap → Calls Tryd.prog 18 #[.slice a m cap] w fun e w' => e = .returned (.agg (dgV (treeS l))) ∧ Below w.heap.size w w')
    (a : Option Addr) (b off cap : Nat) (l : List (List Int)) (w : World) (hR : DigR w a b off n l) (hcap : n ≤ cap) :
    Calls Tryd.prog 18 #[.slice a n cap] w fun e w' => e = .returned (.agg (dgV (treeS l))) ∧ Below w.heap.size w w' := by
  obtain rfl := hR.adr (by omega)
  have hT := treeS_node (l := l) (by rw [hR.len]; exact h1)
  rw [hR.len] at hT
  have HR := Lib.hid (show _ ∧ _ from ⟨hR, IH⟩)
  clear hR IH
  obtain ⟨k, hk⟩ : ∃ k, k = halfN n := ⟨_, rfl⟩
  have hk0 : 0 < k := by rw [hk]; exact halfN_pos n
  have hkn : k < n := by rw [hk]; exact halfN_lt h1
  rw [← hk] at hT
  have HT := Lib.hid hT
  clear hT
  have i0 : ((n : Int) == 0) = false := by simp; omega
  have i1 : ((n : Int) == 1) = false := by simp; omega
  have i2 : ¬ cap < k := by omega
  have i3 : k ≤ n := by omega
  have i4 : ¬ cap = k := by omega
  have cl := fun W => half_any n h1 (by omega) W
  simp only [← hk] at cl
  clear hk
  go_enter Tryd.func18, Tryd.ntmps18
  go_upto_region 1 with fail
  have hd := blk_new w (.cells (List.toArray (.int .u8 0 :: .int .u8 0 :: .int .u8 0 :: .int .u8 0 :: .int .u8 0 :: .int .u8 0 :: .int .u8 0 :: .int .u8 0 :: .int .u8 0 :: .int .u8 0 :: .int .u8 0 :: .int .u8 0 :: .int .u8 0 :: .int .u8 0 :: .int .u8 0 :: .int .u8 0 :: .int .u8 0 :: .int .u8 0 :: .int .u8 0 :: .int .u8 0 :: .int .u8 0 :: .int .u8 0 :: .int .u8 0 :: .int .u8 0 :: .int .u8 0 :: .int .u8 0 :: .int .u8 0 :: .int .u8 0 :: .int .u8 0 :: .int .u8 0 :: .int .u8 0 :: .int .u8 0 :: [])) 26)
  have hB : Below w.heap.size w (w.alloc (.cells (List.toArray (.int .u8 0 :: .int .u8 0 :: .int .u8 0 :: .int .u8 0 :: .int .u8 0 :: .int .u8 0 :: .int .u8 0 :: .int .u8 0 :: .int .u8 0 :: .int .u8 0 :: .int .u8 0 :: .int .u8 0 :: .int .u8 0 :: .int .u8 0 :: .int .u8 0 :: .int .u8 0 :: .int .u8 0 :: .int .u8 0 :: .int .u8 0 :: .int .u8 0 :: .int .u8 0 :: .int .u8 0 :: .int .u8 0 :: .int .u8 0 :: .int .u8 0 :: .int .u8 0 :: .int .u8 0 :: .int .u8 0 :: .int .u8 0 :: .int .u8 0 :: .int .u8 0 :: .int .u8 0 :: [])) 26)) := (Below.refl _ _).alloc (Nat.le_refl _) _
  have HD := Lib.hid (show _ ∧ _ from ⟨hd, hB⟩)
  clear hd hB
  generalize w.alloc (.cells (List.toArray (.int .u8 0 :: .int .u8 0 :: .int .u8 0 :: .int .u8 0 :: .int .u8 0 :: .int .u8 0 :: .int .u8 0 :: .int .u8 0 :: .int .u8 0 :: .int .u8 0 :: .int .u8 0 :: .int .u8 0 :: .int .u8 0 :: .int .u8 0 :: .int .u8 0 :: .int .u8 0 :: .int .u8 0 :: .int .u8 0 :: .int .u8 0 :: .int .u8 0 :: .int .u8 0 :: .int .u8 0 :: .int .u8 0 :: .int .u8 0 :: .int .u8 0 :: .int .u8 0 :: .int .u8 0 :: .int .u8 0 :: .int .u8 0 :: .int .u8 0 :: .int .u8 0 :: .int .u8 0 :: [])) 26) = W1 at *
  go_upto_region 6 with (go_at_call 35; refine (cl _).mono ?_; rintro e w' ⟨rfl, rfl⟩)
  refine wp_region_from 0 3 (fun w' => True) (by kernel_rfl) (by kernel_rfl) (by decide) (by kernel_rfl) trivial ?_
  simp only [List.drop_zero, List.take_succ_cons, List.take_zero]
  refine wpHeld_cons (.slice (some ⟨b, off, none⟩) n cap) (by kernel_rfl) ?_ ?_
  · rintro w' -
    try go_simp
  refine wpHeld_cons (.int .i64 k) (by kernel_rfl) ?_ ?_
  · rintro w' -
    try go_simp
  refine wpHeld_cons (.slice (some ⟨b, off, none⟩) k cap) (by kernel_rfl) ?_ ?_
  · rintro w' -
    go_simp
  refine wpHeld_nil ?_
  refine wpAnyH_from (fuel := 4) 4 3 (fun _ _ _ _ _ h => h) (by kernel_rfl) (by decide) (by kernel_rfl) trivial ?_
  simp only [List.drop_succ_cons, List.drop_zero, List.take_succ_cons, List.take_zero]
  refine wpHeld_cons (.slice (some ⟨b, off, none⟩) n cap) (by kernel_rfl) ?_ ?_
  · rintro w' -
    try go_simp
  refine wpHeld_cons (.int .i64 k) (by kernel_rfl) ?_ ?_
  · rintro w' -
    try go_simp
  refine wpHeld_cons (.slice (some ⟨b, off + k * 32, none⟩) (n - k : Nat) (cap - k : Nat)) (by kernel_rfl) ?_ ?_
  · rintro w' -
    go_simp
  refine wpHeld_nil ?_
  go_simp
  refine wpAnyH_one (i := 3) (by kernel_rfl) rfl (by kernel_rfl) (fun K' hK' => ?_)
  go_simp
  have HD := Lib.hid (show _ ∧ _ from ⟨blk_drew HD.out.1, HD.out.2.drew⟩)
  have hR2 : DigR _ _ b _ _ _ := (HR.out.1.take (Nat.le_of_lt hkn) hk0).below HD.out.2 (Nat.le_refl _)
  refine (HR.out.2 k hkn (some ⟨b, off, none⟩) b off cap (l.take k) _ hR2 (by omega)).mono ?_
  clear hR2
  rintro e W2 ⟨rfl, hb2⟩
  rw [bV_dg]
  have HB2 := Lib.hid (show _ ∧ _ from ⟨blk_below HD.out.1 hb2 (Array.getElem?_eq_some_iff.1 HD.out.1).1, below_after HD.out.2 hb2 HD.out.2.size⟩)
  clear hb2
  refine hK' _ _ trivial ?_
  clear hK' K'
  refine wpAnyH_one (i := 7) (by kernel_rfl) rfl (by kernel_rfl) (fun K' hK' => ?_)
  go_simp
  have hR3 : DigR W2 _ b _ _ _ := (HR.out.1.drop (k := k) (m := n - k) (by omega) (fun _ => rfl)).below HB2.out.2 (Nat.le_refl _)
  refine (HR.out.2 (n - k) (by omega) _ b (off + k * 32) (cap - k) (l.drop k) W2 hR3 (by omega)).mono ?_
  clear hR3
  rintro e W3 ⟨rfl, hb3⟩
  rw [bV_dg]
  have HB3 := Lib.hid (show _ ∧ _ from ⟨blk_below HB2.out.1 hb3 (Array.getElem?_eq_some_iff.1 HB2.out.1).1, below_after HB2.out.2 hb3 HB2.out.2.size⟩)
  clear hb3
  refine hK' _ _ trivial ?_
  clear hK' K'
  have HB := HB3
  refine wpAnyH_one (i := 8) (by kernel_rfl) rfl (by kernel_rfl) (fun K' hK' => ?_)
  go_simp
  refine (node_any (dgL (treeS (l.take k))) (dgL (treeS (l.drop k))) (dgL_len _) (dgL_len _) _).mono ?_
  rintro e W5 ⟨rfl, hb5⟩
  have hd5 := blk_below HB.out.1 hb5 (Array.getElem?_eq_some_iff.1 HB.out.1).1
  have hB5 := below_after HB.out.2 hb5 HB.out.2.size
  have HG := Lib.hid (show _ ∧ _ from ⟨hd5, hB5⟩)
  clear hd5 hB5 hb5
  rw [← HT.out] at *
  refine hK' _ _ trivial ?_
  clear hK' K'
  refine wpAnyH_one (i := 9) (by kernel_rfl) rfl (by kernel_rfl) (fun K' hK' => ?_)
  refine wp_store_row 26 (.tmp 2) (.tmp 26) rfl w.heap.size (dgV (treeS l)) rfl rfl 26 _ HG.out.1 (by rw [dgV_size]; kernel_rfl) (by rw [dgV_size]; rfl) (dgV_one _) ?_
  have hD4 := setRow_heap W5 w.heap.size _ (dgV (treeS l)) 26 (0, 0) HG.out.1
  have hB6 := below_setRow HG.out.2 (Nat.le_refl _) (dgV (treeS l))
  generalize W5.setRow w.heap.size (dgV (treeS l)) = W6 at *
  go_simp
  refine hK' _ _ trivial ?_
  clear hK' K'
  refine wpAnyH_done (by kernel_rfl) ?_ _
  refine NoPanic.normal ?_
  go_wp2
  refine bodyPost_ret (v := .agg (dgV (treeS l))) ?_ rfl ⟨rfl, hB6⟩
  exact results_cell_row Tryd.results18 _ _ w.heap.size 26 (dgV (treeS l)) (0, 0) _ rfl hD4 Tryd.underlying26 rfl (by rw [dgV_size]; kernel_rfl)
end Go.Proofs.YthbjjfblapfjdaaDoor
/- The reference's Tree (layer 2). -/
namespace Go.Proofs.YthbjjfblapfjdaaDoor
open Go.ChangeShapes Go.WideShapes Go.ChangeAt Go.RowKit
theorem rtree_any : ∀ (n : Nat), n ≤ 100000 → ∀ (a : Option Addr) (b off cap : Nat) (l : List (List Int)) (w : World), DigR w a b off n l → n ≤ cap → Calls Tryd.prog 18 #[.slice a n cap] w fun e w' => e = .returned (.agg (dgV (treeS l))) ∧ Below w.heap.size w w' := by
  intro n
  induction n using Nat.strongRecOn with
  | ind n ih =>
    intro hn a b off cap l w hR hcap
    match n, hR with
    | 0, hR => exact rtree_empty a b off cap l w hR
    | 1, hR => exact rtree_leaf a b off cap l w hR
    | n + 2, hR => exact rtree_node (n + 2) (by omega) hn (fun m hm a b off cap l w hR hc => ih m hm (by omega) a b off cap l w hR hc) a b off cap l w hR hcap
end Go.Proofs.YthbjjfblapfjdaaDoor
