/- soundpost/soundpostref02.path (layer 2). -/
import Derived.Test.YthbjjfblapfjdaaDoorDigBuild
namespace Go.Proofs.YthbjjfblapfjdaaDoor
open Go.ChangeShapes Go.WideShapes Go.ChangeAt Go.RowKit
set_option maxRecDepth 100000 in
set_option maxHeartbeats 4000000 in
theorem rpath_node1 (n i k : Nat) (hk : k = halfN n) (h1 : 1 < n) (hn : n ≤ 100000) (IH : ∀ m, m < n → ∀ (i : Nat) (a : Option Addr) (b off cap : Nat) (l : List (List Int)) (w : World), i < m → DigR w a b off m l → m ≤ cap → Calls Tryd.prog 38 #[.slice a m cap, .int .i64 i] w fun e w' => ∃ v, e = .returned v ∧ DgsO w' w.heap.size v (pathL l i) ∧ Below w.heap.size w w')
    (a : Option Addr) (b off cap : Nat) (l : List (List Int)) (w : World) (_hi : i < n) (hik : i < k) (hR : DigR w a b off n l) (hcap : n ≤ cap) : Calls Tryd.prog 38 #[.slice a n cap, .int .i64 i] w fun e w' => ∃ v, e = .returned v ∧ DgsO w' w.heap.size v (pathL l i) ∧ Below w.heap.size w w' := by
  obtain rfl := hR.adr (by omega)
  have hT := pathL_low (i := i) hR.len h1 hk hik
  have hS := Nat.lt_of_le_of_lt (Nat.le_of_eq (pathL_len k i (l.take k) (by rw [List.length_take, hR.len]; have := halfN_lt h1; omega) (by rw [hk]; exact halfN_pos n))) (stepsN_lt _ _ (by have := halfN_lt h1; have := halfN_pos n; omega))
  have HR := Lib.hid (show _ ∧ _ from ⟨hR, IH⟩)
  clear hR IH
  have hk0 : 0 < k := by rw [hk]; exact halfN_pos n
  have hkn : k < n := by rw [hk]; exact halfN_lt h1
  have HT := Lib.hid (show _ ∧ _ from ⟨hT, hS⟩)
  clear hT hS
  have i1 : ((n : Int) == 1) = false := by simp; omega
  have i2 : ¬ cap < k := by omega
  have i3 : k ≤ n := by omega
  have i4 : ¬ cap = k := by omega
  have i5 : (i : Int) < (k : Int) := by omega
  have cl := fun W => half_any n h1 (by omega) W
  simp only [← hk] at cl
  clear hk
  go_enter Tryd.func38, Tryd.ntmps38
  go_upto_region 5 with (go_at_call 35; refine (cl _).mono ?_; rintro e w' ⟨rfl, hw'⟩; subst w')
  refine wp_region_from 0 4 (fun w' => True) (by kernel_rfl) (by kernel_rfl) (by decide) (by kernel_rfl) trivial ?_
  simp only [List.drop_zero, List.take_succ_cons, List.take_zero]
  refine wpHeld_cons ((.slice (some ⟨b, off, none⟩) n cap)) (by kernel_rfl) ?_ ?_
  · rintro w' -
    try go_simp
  refine wpHeld_cons ((.int .i64 k)) (by kernel_rfl) ?_ ?_
  · rintro w' -
    try go_simp
  refine wpHeld_cons ((.slice (some ⟨b, off, none⟩) k cap)) (by kernel_rfl) ?_ ?_
  · rintro w' -
    try go_simp
  refine wpHeld_cons ((.int .i64 i)) (by kernel_rfl) ?_ ?_
  · rintro w' -
    try go_simp
  refine wpHeld_nil ?_
  refine wpAnyH_from (fuel := 5) 5 3 (fun _ _ _ _ _ h => h) (by kernel_rfl) (by decide) (by kernel_rfl) trivial ?_
  simp only [List.drop_succ_cons, List.drop_zero, List.take_succ_cons, List.take_zero]
  refine wpHeld_cons ((.slice (some ⟨b, off, none⟩) n cap)) (by kernel_rfl) ?_ ?_
  · rintro w' -
    try go_simp
  refine wpHeld_cons ((.int .i64 k)) (by kernel_rfl) ?_ ?_
  · rintro w' -
    try go_simp
  refine wpHeld_cons ((.slice (some ⟨b, off + k * 32, none⟩) (n - k : Nat) (cap - k : Nat))) (by kernel_rfl) ?_ ?_
  · rintro w' -
    try go_simp
  refine wpHeld_nil ?_
  go_simp
  refine wpAnyH_one (i := 4) (by kernel_rfl) rfl (by kernel_rfl) (fun K' hK' => ?_)
  go_simp
  have hB0 : Below w.heap.size w w.drew := (Below.refl _ _).drew
  have hR2 : DigR _ _ b _ _ _ := (HR.out.1.take (Nat.le_of_lt hkn) hk0).below hB0 (Nat.le_refl _)
  refine (HR.out.2 k hkn i (some ⟨b, off, none⟩) b off cap (l.take k) _ hik hR2 (by omega)).mono ?_
  clear hR2
  rintro e W2 ⟨v2, rfl, hO2, hb2⟩
  have hB2 := below_after hB0 hb2 (Nat.le_refl _)
  have HB2 := Lib.hid (show _ ∧ _ from ⟨hO2, hB2⟩)
  clear hB0 hO2 hB2 hb2
  go_simp
  refine hK' _ _ trivial ?_
  clear hK' K'
  refine wpAnyH_one (i := 8) (by kernel_rfl) rfl (by kernel_rfl) (fun K' hK' => ?_)
  go_simp
  have hR3 : DigR W2 _ b _ _ _ := (HR.out.1.drop (k := k) (m := n - k) (by omega) (fun _ => rfl)).below HB2.out.2 (Nat.le_refl _)
  refine (rtree_any (n - k) (by omega) _ b (off + k * 32) (cap - k) (l.drop k) W2 hR3 (by omega)).mono ?_
  clear hR3
  rintro e W3 ⟨rfl, hb3⟩
  rw [bV_dg]
  have HB3 := Lib.hid (show _ ∧ _ from ⟨HB2.out.1.below hb3 (Nat.le_refl _), below_after HB2.out.2 hb3 HB2.out.2.size⟩)
  clear hb3
  go_simp
  refine hK' _ _ trivial ?_
  clear hK' K'
  refine wpAnyH_one (i := 9) (by kernel_rfl) rfl (by kernel_rfl) (fun K' hK' => ?_)
  go_simp
  simp only [bV_size32 (dgL_len _), build32 _ (dgL_len _)]
  go_simp
  have hdW := blk_new W3 (.cells (bV (dgL (treeS (l.drop k)))) 26)
  have HB4 := Lib.hid (show _ ∧ _ ∧ _ from ⟨hdW, HB3.out.1.alloc (.cells (bV (dgL (treeS (l.drop k)))) 26), HB3.out.2.alloc HB3.out.2.size (.cells (bV (dgL (treeS (l.drop k)))) 26)⟩)
  clear hdW
  generalize W3.alloc (.cells (bV (dgL (treeS (l.drop k)))) 26) = W4 at *
  refine hK' _ _ trivial ?_
  clear hK' K'
  refine wpAnyH_one (i := 10) (by kernel_rfl) rfl (by kernel_rfl) (fun K' hK' => ?_)
  refine wp_append_D (.tmp 20) (.tmp 25) rfl w.heap.size v2 (pathL (l.take k) i) rfl HB4.out.2.1 W3.heap.size (dgL (treeS (l.drop k))) (dgL_len _) 1 rfl _ _ HB4.out.1 (by have := HT.out.2; omega) HB4.out.2.2.size ?_
  intro v5 W5 hO5 hb5 _
  have HB5 := Lib.hid (show DgsO W5 w.heap.size v5 (pathL l i) ∧ Below w.heap.size w W5 from ⟨by rw [HT.out.1]; exact hO5, below_trans' HB4.out.2.2 hb5⟩)
  clear hO5 hb5
  go_simp
  refine hK' _ _ trivial ?_
  clear hK' K'
  refine wpAnyH_one (i := 11) (by kernel_rfl) rfl (by kernel_rfl) (fun K' hK' => ?_)
  go_simp
  refine hK' _ _ trivial ?_
  clear hK' K'
  refine wpAnyH_done (by kernel_rfl) ?_ _
  refine NoPanic.normal ?_
  go_wp2
  go_ret
  exact ⟨_, rfl, HB5.out.1, HB5.out.2⟩
set_option maxRecDepth 100000 in
set_option maxHeartbeats 4000000 in
theorem rpath_node2 (n i k : Nat) (hk : k = halfN n) (h1 : 1 < n) (hn : n ≤ 100000) (IH : ∀ m, m < n → ∀ (i : Nat) (a : Option Addr) (b off cap : Nat) (l : List (List Int)) (w : World), i < m → DigR w a b off m l → m ≤ cap → Calls Tryd.prog 38 #[.slice a m cap, .int .i64 i] w fun e w' => ∃ v, e = .returned v ∧ DgsO w' w.heap.size v (pathL l i) ∧ Below w.heap.size w w')
    (a : Option Addr) (b off cap : Nat) (l : List (List Int)) (w : World) (hi : i < n) (hik : k ≤ i) (hR : DigR w a b off n l) (hcap : n ≤ cap) : Calls Tryd.prog 38 #[.slice a n cap, .int .i64 i] w fun e w' => ∃ v, e = .returned v ∧ DgsO w' w.heap.size v (pathL l i) ∧ Below w.heap.size w w' := by
  obtain rfl := hR.adr (by omega)
  have hT := pathL_high (i := i) hR.len h1 hk hik
  have hS := Nat.lt_of_le_of_lt (Nat.le_of_eq (pathL_len (n - k) (i - k) (l.drop k) (by rw [List.length_drop, hR.len]) (by have := halfN_lt h1; omega))) (stepsN_lt _ _ (by have := halfN_lt h1; have := halfN_pos n; omega))
  have HR := Lib.hid (show _ ∧ _ from ⟨hR, IH⟩)
  clear hR IH
  have hk0 : 0 < k := by rw [hk]; exact halfN_pos n
  have hkn : k < n := by rw [hk]; exact halfN_lt h1
  have HT := Lib.hid (show _ ∧ _ from ⟨hT, hS⟩)
  clear hT hS
  have i1 : ((n : Int) == 1) = false := by simp; omega
  have i2 : ¬ cap < k := by omega
  have i3 : k ≤ n := by omega
  have i4 : ¬ cap = k := by omega
  have i5 : ¬ (i : Int) < (k : Int) := by omega
  have u1 : IntKind.i64.wrap ((i : Int) - (k : Int)) = ((i - k : Nat) : Int) := (wrap_id (by omega)).trans (by omega)
  have cl := fun W => half_any n h1 (by omega) W
  simp only [← hk] at cl
  clear hk
  go_enter Tryd.func38, Tryd.ntmps38
  go_upto_region 6 with (go_at_call 35; refine (cl _).mono ?_; rintro e w' ⟨rfl, hw'⟩; subst w')
  refine wp_region_from 0 6 (fun w' => True) (by kernel_rfl) (by kernel_rfl) (by decide) (by kernel_rfl) trivial ?_
  simp only [List.drop_zero, List.take_succ_cons, List.take_zero]
  refine wpHeld_cons ((.slice (some ⟨b, off, none⟩) n cap)) (by kernel_rfl) ?_ ?_
  · rintro w' -
    try go_simp
  refine wpHeld_cons ((.int .i64 k)) (by kernel_rfl) ?_ ?_
  · rintro w' -
    try go_simp
  refine wpHeld_cons ((.slice (some ⟨b, off + k * 32, none⟩) (n - k : Nat) (cap - k : Nat))) (by kernel_rfl) ?_ ?_
  · rintro w' -
    try go_simp
  refine wpHeld_cons ((.int .i64 i)) (by kernel_rfl) ?_ ?_
  · rintro w' -
    try go_simp
  refine wpHeld_cons ((.int .i64 k)) (by kernel_rfl) ?_ ?_
  · rintro w' -
    try go_simp
  refine wpHeld_cons ((.int .i64 (i - k : Nat))) (by kernel_rfl) ?_ ?_
  · rintro w' -
    try go_simp
  refine wpHeld_nil ?_
  refine wpAnyH_from (fuel := 5) 7 3 (fun _ _ _ _ _ h => h) (by kernel_rfl) (by decide) (by kernel_rfl) trivial ?_
  simp only [List.drop_succ_cons, List.drop_zero, List.take_succ_cons, List.take_zero]
  refine wpHeld_cons ((.slice (some ⟨b, off, none⟩) n cap)) (by kernel_rfl) ?_ ?_
  · rintro w' -
    try go_simp
  refine wpHeld_cons ((.int .i64 k)) (by kernel_rfl) ?_ ?_
  · rintro w' -
    try go_simp
  refine wpHeld_cons ((.slice (some ⟨b, off, none⟩) k cap)) (by kernel_rfl) ?_ ?_
  · rintro w' -
    try go_simp
  refine wpHeld_nil ?_
  go_simp
  refine wpAnyH_one (i := 6) (by kernel_rfl) rfl (by kernel_rfl) (fun K' hK' => ?_)
  go_simp
  have hB0 : Below w.heap.size w w.drew := (Below.refl _ _).drew
  have hR2 : DigR _ _ b _ _ _ := (HR.out.1.drop (k := k) (m := n - k) (by omega) (fun _ => rfl)).below hB0 (Nat.le_refl _)
  refine (HR.out.2 (n - k) (by omega) (i - k) _ b (off + k * 32) (cap - k) (l.drop k) _ (by omega) hR2 (by omega)).mono ?_
  clear hR2
  rintro e W2 ⟨v2, rfl, hO2, hb2⟩
  have hB2 := below_after hB0 hb2 (Nat.le_refl _)
  have HB2 := Lib.hid (show _ ∧ _ from ⟨hO2, hB2⟩)
  clear hB0 hO2 hB2 hb2
  go_simp
  refine hK' _ _ trivial ?_
  clear hK' K'
  refine wpAnyH_one (i := 10) (by kernel_rfl) rfl (by kernel_rfl) (fun K' hK' => ?_)
  go_simp
  have hR3 : DigR W2 _ b _ _ _ := (HR.out.1.take (Nat.le_of_lt hkn) hk0).below HB2.out.2 (Nat.le_refl _)
  refine (rtree_any k (by omega) _ b off cap (l.take k) W2 hR3 (by omega)).mono ?_
  clear hR3
  rintro e W3 ⟨rfl, hb3⟩
  rw [bV_dg]
  have HB3 := Lib.hid (show _ ∧ _ from ⟨HB2.out.1.below hb3 (Nat.le_refl _), below_after HB2.out.2 hb3 HB2.out.2.size⟩)
  clear hb3
  go_simp
  refine hK' _ _ trivial ?_
  clear hK' K'
  refine wpAnyH_one (i := 11) (by kernel_rfl) rfl (by kernel_rfl) (fun K' hK' => ?_)
  go_simp
  simp only [bV_size32 (dgL_len _), build32 _ (dgL_len _)]
  go_simp
  have hdW := blk_new W3 (.cells (bV (dgL (treeS (l.take k)))) 26)
  have HB4 := Lib.hid (show _ ∧ _ ∧ _ from ⟨hdW, HB3.out.1.alloc (.cells (bV (dgL (treeS (l.take k)))) 26), HB3.out.2.alloc HB3.out.2.size (.cells (bV (dgL (treeS (l.take k)))) 26)⟩)
  clear hdW
  generalize W3.alloc (.cells (bV (dgL (treeS (l.take k)))) 26) = W4 at *
  refine hK' _ _ trivial ?_
  clear hK' K'
  refine wpAnyH_one (i := 12) (by kernel_rfl) rfl (by kernel_rfl) (fun K' hK' => ?_)
  refine wp_append_D (.tmp 33) (.tmp 38) rfl w.heap.size v2 (pathL (l.drop k) (i - k)) rfl HB4.out.2.1 W3.heap.size (dgL (treeS (l.take k))) (dgL_len _) 1 rfl _ _ HB4.out.1 (by have := HT.out.2; omega) HB4.out.2.2.size ?_
  intro v5 W5 hO5 hb5 _
  have HB5 := Lib.hid (show DgsO W5 w.heap.size v5 (pathL l i) ∧ Below w.heap.size w W5 from ⟨by rw [HT.out.1]; exact hO5, below_trans' HB4.out.2.2 hb5⟩)
  clear hO5 hb5
  go_simp
  refine hK' _ _ trivial ?_
  clear hK' K'
  refine wpAnyH_one (i := 13) (by kernel_rfl) rfl (by kernel_rfl) (fun K' hK' => ?_)
  go_simp
  refine hK' _ _ trivial ?_
  clear hK' K'
  refine wpAnyH_done (by kernel_rfl) ?_ _
  refine NoPanic.normal ?_
  go_wp2
  go_ret
  exact ⟨_, rfl, HB5.out.1, HB5.out.2⟩
theorem rpath_any : ∀ (n : Nat), n ≤ 100000 → ∀ (i : Nat) (a : Option Addr) (b off cap : Nat) (l : List (List Int)) (w : World), i < n → DigR w a b off n l → n ≤ cap → Calls Tryd.prog 38 #[.slice a n cap, .int .i64 i] w fun e w' => ∃ v, e = .returned v ∧ DgsO w' w.heap.size v (pathL l i) ∧ Below w.heap.size w w' := by
  intro n
  induction n using Nat.strongRecOn with
  | ind n ih =>
    intro hn i a b off cap l w hi hR hcap
    by_cases h1 : 1 < n
    · have IH := fun m hm i a b off cap l w hi hR hc => ih m hm (by omega) i a b off cap l w hi hR hc
      by_cases hik : i < halfN n
      · exact rpath_node1 n i _ rfl h1 hn IH a b off cap l w hi hik hR hcap
      · exact rpath_node2 n i _ rfl h1 hn IH a b off cap l w hi (by omega) hR hcap
    · obtain rfl : n = 1 := by omega
      have hp := pathL_one i hR.len
      have HP := Lib.hid hp
      clear hp hR ih
      go_enter Tryd.func38, Tryd.ntmps38
      go_wp2
      go_ret
      exact ⟨_, rfl, by rw [HP.out]; exact DgsO.empty w, (Below.refl _ _).alloc (Nat.le_refl _) _⟩
end Go.Proofs.YthbjjfblapfjdaaDoor
