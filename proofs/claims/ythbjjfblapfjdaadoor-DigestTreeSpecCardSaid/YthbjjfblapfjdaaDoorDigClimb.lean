/- soundpost/digest.climb (layer 2). -/
import Derived.Test.YthbjjfblapfjdaaDoorDigBuild
namespace Go.Proofs.YthbjjfblapfjdaaDoor
open Go.ChangeShapes Go.WideShapes Go.ChangeAt Go.RowKit
/-- A digest loaded in a region that draws. -/
theorem wpHeld_load {ops : Array Oper} {S : World → Prop} {o : Oper} {l : List Oper} {a : Act} {K : Act → Prop} (x : Operand) (ho : o.op = .load 26 x) (hw : Region.wanted o (yielded ops a.tmps) = true) (b off : Nat) (hx : a.eval x = .pointer (some ⟨b, off, none⟩)) (L : List Int) (hL : L.length = 32)
    (hS : ∀ w, S w → w.rangeAt b off (L.map (Value.int .u8))) (hr : wpHeld Tryd.prog ops S K l (a.put o.dst (.agg (bV L)))) : wpHeld Tryd.prog ops S K (o :: l) a :=
  ⟨.agg (bV L), yieldsIf_load_mid hw 26 x ho b off hx (L.map (Value.int .u8)) _ hS Tryd.underlying26 rfl (by rw [List.length_map, hL]; kernel_rfl), hr⟩
theorem DigR.take0 {w : World} {a : Option Addr} {b off n : Nat} {l : List (List Int)} (h : DigR w a b off n l) {k : Nat} (hk : k ≤ n) : DigR w a b off k (l.take k) := by
  rcases Nat.eq_zero_or_pos k with rfl | h0
  · exact ⟨by simp, fun i hi => by omega, fun h => by omega, fun h => by omega, fun i j hi => by omega⟩
  · exact h.take hk h0
set_option maxRecDepth 100000 in
set_option maxHeartbeats 4000000 in
theorem climb_leaf (d : List Int) (hd : d.length = 32) (i : Nat) (v : Value) (P : List (List Int)) (w : World) (hK : Keys w) : Calls Tryd.prog 40 #[.agg (bV d), .int .i64 i, .int .i64 1, v] w fun e w' => e = .returned (.agg (dgV (climbS d i 1 P))) ∧ Below w.heap.size w w' := by
  rw [climbS_one]
  go_enter Tryd.func40, Tryd.ntmps40
  go_upto_region 1 with fail
  have hb := blk_alloc (blk_new w (.cells (bV d) 26)) (.cells (List.toArray (.int .u8 0 :: .int .u8 0 :: .int .u8 0 :: .int .u8 0 :: .int .u8 0 :: .int .u8 0 :: .int .u8 0 :: .int .u8 0 :: .int .u8 0 :: .int .u8 0 :: .int .u8 0 :: .int .u8 0 :: .int .u8 0 :: .int .u8 0 :: .int .u8 0 :: .int .u8 0 :: .int .u8 0 :: .int .u8 0 :: .int .u8 0 :: .int .u8 0 :: .int .u8 0 :: .int .u8 0 :: .int .u8 0 :: .int .u8 0 :: .int .u8 0 :: .int .u8 0 :: .int .u8 0 :: .int .u8 0 :: .int .u8 0 :: .int .u8 0 :: .int .u8 0 :: .int .u8 0 :: [])) 26)
  have hz := blkN (W := w.alloc (.cells (bV d) 26)) (o := .cells (List.toArray (.int .u8 0 :: .int .u8 0 :: .int .u8 0 :: .int .u8 0 :: .int .u8 0 :: .int .u8 0 :: .int .u8 0 :: .int .u8 0 :: .int .u8 0 :: .int .u8 0 :: .int .u8 0 :: .int .u8 0 :: .int .u8 0 :: .int .u8 0 :: .int .u8 0 :: .int .u8 0 :: .int .u8 0 :: .int .u8 0 :: .int .u8 0 :: .int .u8 0 :: .int .u8 0 :: .int .u8 0 :: .int .u8 0 :: .int .u8 0 :: .int .u8 0 :: .int .u8 0 :: .int .u8 0 :: .int .u8 0 :: .int .u8 0 :: .int .u8 0 :: .int .u8 0 :: .int .u8 0 :: [])) 26) (k := w.heap.size + 1) (by simp)
  have hB : Below w.heap.size w ((w.alloc (.cells (bV d) 26)).alloc (.cells (List.toArray (.int .u8 0 :: .int .u8 0 :: .int .u8 0 :: .int .u8 0 :: .int .u8 0 :: .int .u8 0 :: .int .u8 0 :: .int .u8 0 :: .int .u8 0 :: .int .u8 0 :: .int .u8 0 :: .int .u8 0 :: .int .u8 0 :: .int .u8 0 :: .int .u8 0 :: .int .u8 0 :: .int .u8 0 :: .int .u8 0 :: .int .u8 0 :: .int .u8 0 :: .int .u8 0 :: .int .u8 0 :: .int .u8 0 :: .int .u8 0 :: .int .u8 0 :: .int .u8 0 :: .int .u8 0 :: .int .u8 0 :: .int .u8 0 :: .int .u8 0 :: .int .u8 0 :: .int .u8 0 :: [])) 26)) := ((Below.refl _ _).alloc (Nat.le_refl _) _).alloc (by simp) _
  have HD := Lib.hid (show _ ∧ _ ∧ _ ∧ Keys _ from ⟨hb, hz, hB, hK.below hB⟩)
  clear hb hz hB hK
  generalize (w.alloc (.cells (bV d) 26)).alloc (.cells (List.toArray (.int .u8 0 :: .int .u8 0 :: .int .u8 0 :: .int .u8 0 :: .int .u8 0 :: .int .u8 0 :: .int .u8 0 :: .int .u8 0 :: .int .u8 0 :: .int .u8 0 :: .int .u8 0 :: .int .u8 0 :: .int .u8 0 :: .int .u8 0 :: .int .u8 0 :: .int .u8 0 :: .int .u8 0 :: .int .u8 0 :: .int .u8 0 :: .int .u8 0 :: .int .u8 0 :: .int .u8 0 :: .int .u8 0 :: .int .u8 0 :: .int .u8 0 :: .int .u8 0 :: .int .u8 0 :: .int .u8 0 :: .int .u8 0 :: .int .u8 0 :: .int .u8 0 :: .int .u8 0 :: [])) 26) = W1 at *
  go_upto_region 2 with fail
  refine wp_region_lit ?_
  refine wpList_load_row rfl _ (.tmp 4) rfl w.heap.size rfl 26 (bV d) (0, 0) _ HD.out.1 Tryd.underlying26 rfl (by rw [bV_size, hd]; kernel_rfl) ?_
  go_wp2_with fail
  refine (leaf_any d hd _ HD.out.2.2.2).mono ?_
  rintro e W5 ⟨rfl, hb5⟩
  have hd5 := blk_below HD.out.2.1 hb5 (Array.getElem?_eq_some_iff.1 HD.out.2.1).1
  have hB5 := below_after HD.out.2.2.1 hb5 HD.out.2.2.1.size
  have HG := Lib.hid (show _ ∧ _ from ⟨hd5, hB5⟩)
  clear hd5 hB5 hb5
  go_wp2_with (with_reducible refine held (o := ⟨none, _, _, _, _, _⟩) ?_)
  unfold Held
  refine wpList_store_row rfl _ (.tmp 8) (.tmp 14) rfl (w.heap.size + 1) (dgV (tagS ⟨#[108, 101, 97, 102]⟩ d)) rfl rfl 26 _ HG.out.1 (by rw [dgV_size]; kernel_rfl) (by rw [dgV_size]; rfl) (dgV_one _) ?_
  have hD4 := setRow_heap W5 (w.heap.size + 1) _ (dgV (tagS ⟨#[108, 101, 97, 102]⟩ d)) 26 (0, 0) HG.out.1
  have hB6 := below_setRow HG.out.2 (show w.heap.size ≤ w.heap.size + 1 by omega) (dgV (tagS ⟨#[108, 101, 97, 102]⟩ d))
  generalize W5.setRow (w.heap.size + 1) (dgV (tagS ⟨#[108, 101, 97, 102]⟩ d)) = W6 at *
  go_wp2
  refine bodyPost_ret (v := .agg (dgV (tagS ⟨#[108, 101, 97, 102]⟩ d))) ?_ rfl ⟨rfl, hB6⟩
  exact results_cell_row Tryd.results40 _ _ (w.heap.size + 1) 26 (dgV (tagS ⟨#[108, 101, 97, 102]⟩ d)) (0, 0) _ rfl hD4 Tryd.underlying26 rfl (by rw [dgV_size]; kernel_rfl)
set_option maxRecDepth 100000 in
set_option maxHeartbeats 4000000 in
theorem climb_node1 (n i k m : Nat) (hk : k = halfN n) (h1 : 1 < n) (hn : n ≤ 1099511627776) (d : List Int) (hd : d.length = 32) (IH : ∀ n', n' < n → ∀ (i m : Nat) (pa : Option Addr) (pb poff pcap : Nat) (P : List (List Int)) (w : World), i < n' → stepsN i n' = m → DigR w pa pb poff m P → m ≤ pcap → Keys w → Calls Tryd.prog 40 #[.agg (bV d), .int .i64 i, .int .i64 n', .slice pa m pcap] w fun e w' => e = .returned (.agg (dgV (climbS d i n' P))) ∧ Below w.heap.size w w')
    (pa : Option Addr) (pb poff pcap : Nat) (P : List (List Int)) (w : World) (_hi : i < n) (hik : i < k) (hm : stepsN i n = m + 1) (hP : DigR w pa pb poff (m + 1) P) (hcap : m + 1 ≤ pcap) (hK : Keys w) : Calls Tryd.prog 40 #[.agg (bV d), .int .i64 i, .int .i64 n, .slice pa (m + 1 : Nat) pcap] w fun e w' => e = .returned (.agg (dgV (climbS d i n P))) ∧ Below w.heap.size w w' := by
  obtain rfl := hP.adr (by omega)
  have hT := climbS_low (d := d) (i := i) h1 hk hP.len hik
  have hs := stepsN_low h1 hk hik
  have hm1 := stepsN_lt n i (by omega)
  have HL := Lib.hid (hP.dig m (by omega))
  have HR := Lib.hid (show _ ∧ _ from ⟨hP, IH⟩)
  have hk0 : 0 < k := by rw [hk]; exact halfN_pos n
  have hkn : k < n := by rw [hk]; exact halfN_lt h1
  have HT := Lib.hid hT
  have HS := Lib.hid (show stepsN i k = m by omega)
  rw [hm] at hm1
  clear hT hs hm hP IH
  have i1 : ((n : Int) == 1) = false := by simp; omega
  have i2 : ¬ pcap < m := by omega
  have i8 : m ≤ pcap := by omega
  have i3 : m < m + 1 := by omega
  have i5 : (i : Int) < (k : Int) := by omega
  have i6 : ¬ (m : Int) < 0 := by omega
  have i7 : (m : Int) < ((m + 1 : Nat) : Int) := by omega
  have u0 : IntKind.i64.wrap (((m + 1 : Nat) : Int) - 1) = (m : Int) := (wrap_id (by omega)).trans (by omega)
  have u9 : IntKind.i64.wrap ((m : Int) + 1 - 1) = (m : Int) := (wrap_id (by omega)).trans (by omega)
  have cl := fun W => left_any n h1 (by omega) W
  simp only [← hk] at cl
  clear hk
  go_enter Tryd.func40, Tryd.ntmps40
  go_upto_region 1 with fail
  have hb := blk_alloc (blk_new w (.cells (bV d) 26)) (.cells (List.toArray (.int .u8 0 :: .int .u8 0 :: .int .u8 0 :: .int .u8 0 :: .int .u8 0 :: .int .u8 0 :: .int .u8 0 :: .int .u8 0 :: .int .u8 0 :: .int .u8 0 :: .int .u8 0 :: .int .u8 0 :: .int .u8 0 :: .int .u8 0 :: .int .u8 0 :: .int .u8 0 :: .int .u8 0 :: .int .u8 0 :: .int .u8 0 :: .int .u8 0 :: .int .u8 0 :: .int .u8 0 :: .int .u8 0 :: .int .u8 0 :: .int .u8 0 :: .int .u8 0 :: .int .u8 0 :: .int .u8 0 :: .int .u8 0 :: .int .u8 0 :: .int .u8 0 :: .int .u8 0 :: [])) 26)
  have hz := blkN (W := w.alloc (.cells (bV d) 26)) (o := .cells (List.toArray (.int .u8 0 :: .int .u8 0 :: .int .u8 0 :: .int .u8 0 :: .int .u8 0 :: .int .u8 0 :: .int .u8 0 :: .int .u8 0 :: .int .u8 0 :: .int .u8 0 :: .int .u8 0 :: .int .u8 0 :: .int .u8 0 :: .int .u8 0 :: .int .u8 0 :: .int .u8 0 :: .int .u8 0 :: .int .u8 0 :: .int .u8 0 :: .int .u8 0 :: .int .u8 0 :: .int .u8 0 :: .int .u8 0 :: .int .u8 0 :: .int .u8 0 :: .int .u8 0 :: .int .u8 0 :: .int .u8 0 :: .int .u8 0 :: .int .u8 0 :: .int .u8 0 :: .int .u8 0 :: [])) 26) (k := w.heap.size + 1) (by simp)
  have hB : Below w.heap.size w ((w.alloc (.cells (bV d) 26)).alloc (.cells (List.toArray (.int .u8 0 :: .int .u8 0 :: .int .u8 0 :: .int .u8 0 :: .int .u8 0 :: .int .u8 0 :: .int .u8 0 :: .int .u8 0 :: .int .u8 0 :: .int .u8 0 :: .int .u8 0 :: .int .u8 0 :: .int .u8 0 :: .int .u8 0 :: .int .u8 0 :: .int .u8 0 :: .int .u8 0 :: .int .u8 0 :: .int .u8 0 :: .int .u8 0 :: .int .u8 0 :: .int .u8 0 :: .int .u8 0 :: .int .u8 0 :: .int .u8 0 :: .int .u8 0 :: .int .u8 0 :: .int .u8 0 :: .int .u8 0 :: .int .u8 0 :: .int .u8 0 :: .int .u8 0 :: [])) 26)) := ((Below.refl _ _).alloc (Nat.le_refl _) _).alloc (by simp) _
  have hsz : ((w.alloc (.cells (bV d) 26)).alloc (.cells (List.toArray (.int .u8 0 :: .int .u8 0 :: .int .u8 0 :: .int .u8 0 :: .int .u8 0 :: .int .u8 0 :: .int .u8 0 :: .int .u8 0 :: .int .u8 0 :: .int .u8 0 :: .int .u8 0 :: .int .u8 0 :: .int .u8 0 :: .int .u8 0 :: .int .u8 0 :: .int .u8 0 :: .int .u8 0 :: .int .u8 0 :: .int .u8 0 :: .int .u8 0 :: .int .u8 0 :: .int .u8 0 :: .int .u8 0 :: .int .u8 0 :: .int .u8 0 :: .int .u8 0 :: .int .u8 0 :: .int .u8 0 :: .int .u8 0 :: .int .u8 0 :: .int .u8 0 :: .int .u8 0 :: [])) 26)).heap.size = w.heap.size + 2 := by simp
  have HD := Lib.hid (show _ ∧ _ ∧ _ ∧ Keys _ from ⟨hb, hz, hB, hK.below hB⟩)
  have HZ := Lib.hid (Nat.le_of_eq hsz.symm)
  clear hb hz hB hsz hK
  generalize (w.alloc (.cells (bV d) 26)).alloc (.cells (List.toArray (.int .u8 0 :: .int .u8 0 :: .int .u8 0 :: .int .u8 0 :: .int .u8 0 :: .int .u8 0 :: .int .u8 0 :: .int .u8 0 :: .int .u8 0 :: .int .u8 0 :: .int .u8 0 :: .int .u8 0 :: .int .u8 0 :: .int .u8 0 :: .int .u8 0 :: .int .u8 0 :: .int .u8 0 :: .int .u8 0 :: .int .u8 0 :: .int .u8 0 :: .int .u8 0 :: .int .u8 0 :: .int .u8 0 :: .int .u8 0 :: .int .u8 0 :: .int .u8 0 :: .int .u8 0 :: .int .u8 0 :: .int .u8 0 :: .int .u8 0 :: .int .u8 0 :: .int .u8 0 :: [])) 26) = W1 at *
  go_upto_region 5 with (go_at_call 33; refine (cl _).mono ?_; rintro e w' ⟨rfl, hw'⟩; subst w')
  have hs1 : ∀ w', Below W1.heap.size W1 w' → Below (w.heap.size + 1) W1 w' := fun w' h => h.mono (Nat.le_of_succ_le HZ.out)
  refine wp_region_from 0 6 (fun w' => Below (w.heap.size + 1) W1 w') (by kernel_rfl) (by kernel_rfl) (by decide) (by kernel_rfl) (hs1 _ (Below.refl _ _).drew) ?_
  simp only [List.drop_zero, List.take_succ_cons, List.take_zero]
  refine wpHeld_load (.tmp 4) (by kernel_rfl) (by kernel_rfl) (w.heap.size) (0) (by kernel_rfl) d hd (fun w' hS => (RowB.of_bV hd (blk_below HD.out.1 hS (Nat.lt_succ_self _))).range) ?_
  refine wpHeld_cons ((.int .i64 i)) (by kernel_rfl) ?_ ?_
  · rintro w' -
    try go_simp
  refine wpHeld_cons ((.int .i64 k)) (by kernel_rfl) ?_ ?_
  · rintro w' -
    try go_simp
  refine wpHeld_cons ((.slice (some ⟨pb, poff, none⟩) (m + 1 : Nat) pcap)) (by kernel_rfl) ?_ ?_
  · rintro w' -
    try go_simp
  refine wpHeld_cons ((.int .i64 m)) (by kernel_rfl) ?_ ?_
  · rintro w' -
    try go_simp
  refine wpHeld_cons ((.slice (some ⟨pb, poff, none⟩) m pcap)) (by kernel_rfl) ?_ ?_
  · rintro w' -
    try go_simp
  refine wpHeld_nil ?_
  refine wpAnyH_from (fuel := 3) 7 4 (fun _ _ _ _ _ h => h) (by kernel_rfl) (by decide) (by kernel_rfl) (hs1 _ (Below.refl _ _).drew) ?_
  simp only [List.drop_succ_cons, List.drop_zero, List.take_succ_cons, List.take_zero]
  refine wpHeld_cons ((.slice (some ⟨pb, poff, none⟩) (m + 1 : Nat) pcap)) (by kernel_rfl) ?_ ?_
  · rintro w' -
    try go_simp
  refine wpHeld_cons ((.int .i64 m)) (by kernel_rfl) ?_ ?_
  · rintro w' -
    try go_simp
  refine wpHeld_cons (.pointer (some ⟨pb, poff + m * 32, none⟩)) (by kernel_rfl) ?_ ?_
  · rintro w' -
    go_simp
    intro h
    omega
  refine wpHeld_load (.tmp 32) (by kernel_rfl) (by kernel_rfl) (pb) (poff + m * 32) (by kernel_rfl) (P.getD m []) HL.out (fun w' hS => ((HR.out.1.below (HD.out.2.2.1.trans (hS.mono (Nat.le_succ _))) (Nat.le_refl _)).elem (Nat.lt_succ_self _)).range) ?_
  refine wpHeld_nil ?_
  go_simp
  refine wpAnyH_one (i := 6) (by kernel_rfl) rfl (by kernel_rfl) (fun K' hK' => ?_)
  go_simp
  have hb0 : Below W1.heap.size W1 W1.drew := (Below.refl _ _).drew
  refine (HR.out.2 k hkn i m (some ⟨pb, poff, none⟩) pb poff pcap (P.take m) _ hik HS.out ((HR.out.1.below HD.out.2.2.1.drew (Nat.le_refl _)).take0 (by omega)) (by omega) (HD.out.2.2.2.below hb0)).mono ?_
  rintro e W2 ⟨rfl, hb2⟩
  rw [bV_dg]
  have hb2' := below_after hb0 hb2 (Nat.le_refl _)
  have HB2 := Lib.hid (show Below W1.heap.size W1 W2 ∧ _ ∧ Keys W2 from ⟨hb2', blk_below HD.out.2.1 hb2' (Array.getElem?_eq_some_iff.1 HD.out.2.1).1, HD.out.2.2.2.below hb2'⟩)
  clear hb0 hb2 hb2'
  go_simp
  refine hK' _ _ (hs1 _ HB2.out.1) ?_
  clear hK' K'
  refine wpAnyH_one (i := 11) (by kernel_rfl) rfl (by kernel_rfl) (fun K' hK' => ?_)
  go_simp
  refine (pair_any ⟨#[110, 111, 100, 101]⟩ (dgL (climbS d i k (P.take m))) (P.getD m []) (dgL_len _) HL.out (by decide) _ HB2.out.2.2).mono ?_
  rintro e W3 ⟨rfl, hb3⟩
  have hb3' := below_after HB2.out.1 hb3 HB2.out.1.size
  have HG := Lib.hid (show Below W1.heap.size W1 W3 ∧ _ from ⟨hb3', blk_below HB2.out.2.1 hb3 (Array.getElem?_eq_some_iff.1 HB2.out.2.1).1⟩)
  clear hb3 hb3'
  rw [← HT.out] at *
  refine hK' _ _ (hs1 _ HG.out.1) ?_
  clear hK' K'
  refine wpAnyH_one (i := 12) (by kernel_rfl) rfl (by kernel_rfl) (fun K' hK' => ?_)
  refine wp_store_row 26 (.tmp 8) (.tmp 34) rfl (w.heap.size + 1) (dgV (climbS d i n P)) rfl rfl 26 _ HG.out.2 (by rw [dgV_size]; kernel_rfl) (by rw [dgV_size]; rfl) (dgV_one _) ?_
  have hD4 := setRow_heap W3 (w.heap.size + 1) _ (dgV (climbS d i n P)) 26 (0, 0) HG.out.2
  have hB6 := below_setRow (HD.out.2.2.1.trans (HG.out.1.mono HD.out.2.2.1.size)) (show w.heap.size ≤ w.heap.size + 1 by omega) (dgV (climbS d i n P))
  have hBS := below_setRow (HG.out.1.mono (Nat.le_of_succ_le HZ.out)) (Nat.le_refl _) (dgV (climbS d i n P))
  generalize W3.setRow (w.heap.size + 1) (dgV (climbS d i n P)) = W6 at *
  go_simp
  refine hK' _ _ hBS ?_
  clear hK' K'
  refine wpAnyH_done (by kernel_rfl) ?_ _
  refine NoPanic.normal ?_
  go_wp2
  refine bodyPost_ret (v := .agg (dgV (climbS d i n P))) ?_ rfl ⟨rfl, hB6⟩
  exact results_cell_row Tryd.results40 _ _ (w.heap.size + 1) 26 (dgV (climbS d i n P)) (0, 0) _ rfl hD4 Tryd.underlying26 rfl (by rw [dgV_size]; kernel_rfl)
set_option maxRecDepth 100000 in
set_option maxHeartbeats 4000000 in
theorem climb_node2 (n i k m : Nat) (hk : k = halfN n) (h1 : 1 < n) (hn : n ≤ 1099511627776) (d : List Int) (hd : d.length = 32) (IH : ∀ n', n' < n → ∀ (i m : Nat) (pa : Option Addr) (pb poff pcap : Nat) (P : List (List Int)) (w : World), i < n' → stepsN i n' = m → DigR w pa pb poff m P → m ≤ pcap → Keys w → Calls Tryd.prog 40 #[.agg (bV d), .int .i64 i, .int .i64 n', .slice pa m pcap] w fun e w' => e = .returned (.agg (dgV (climbS d i n' P))) ∧ Below w.heap.size w w')
    (pa : Option Addr) (pb poff pcap : Nat) (P : List (List Int)) (w : World) (hi : i < n) (hik : k ≤ i) (hm : stepsN i n = m + 1) (hP : DigR w pa pb poff (m + 1) P) (hcap : m + 1 ≤ pcap) (hK : Keys w) : Calls Tryd.prog 40 #[.agg (bV d), .int .i64 i, .int .i64 n, .slice pa (m + 1 : Nat) pcap] w fun e w' => e = .returned (.agg (dgV (climbS d i n P))) ∧ Below w.heap.size w w' := by
  obtain rfl := hP.adr (by omega)
  have hT := climbS_high (d := d) (i := i) h1 hk hP.len hik
  have hs := stepsN_high h1 hk hik
  have hm1 := stepsN_lt n i (by omega)
  have HL := Lib.hid (hP.dig m (by omega))
  have HR := Lib.hid (show _ ∧ _ from ⟨hP, IH⟩)
  have hk0 : 0 < k := by rw [hk]; exact halfN_pos n
  have hkn : k < n := by rw [hk]; exact halfN_lt h1
  have HT := Lib.hid hT
  have HS := Lib.hid (show stepsN (i - k) (n - k) = m by omega)
  rw [hm] at hm1
  clear hT hs hm hP IH
  have i1 : ((n : Int) == 1) = false := by simp; omega
  have i2 : ¬ pcap < m := by omega
  have i8 : m ≤ pcap := by omega
  have i3 : m < m + 1 := by omega
  have i5 : ¬ (i : Int) < (k : Int) := by omega
  have i6 : ¬ (m : Int) < 0 := by omega
  have i7 : (m : Int) < ((m + 1 : Nat) : Int) := by omega
  have u0 : IntKind.i64.wrap (((m + 1 : Nat) : Int) - 1) = (m : Int) := (wrap_id (by omega)).trans (by omega)
  have u9 : IntKind.i64.wrap ((m : Int) + 1 - 1) = (m : Int) := (wrap_id (by omega)).trans (by omega)
  have u1 : IntKind.i64.wrap ((i : Int) - (k : Int)) = ((i - k : Nat) : Int) := (wrap_id (by omega)).trans (by omega)
  have u2 : IntKind.i64.wrap ((n : Int) - (k : Int)) = ((n - k : Nat) : Int) := (wrap_id (by omega)).trans (by omega)
  have cl := fun W => left_any n h1 (by omega) W
  simp only [← hk] at cl
  clear hk
  go_enter Tryd.func40, Tryd.ntmps40
  go_upto_region 1 with fail
  have hb := blk_alloc (blk_new w (.cells (bV d) 26)) (.cells (List.toArray (.int .u8 0 :: .int .u8 0 :: .int .u8 0 :: .int .u8 0 :: .int .u8 0 :: .int .u8 0 :: .int .u8 0 :: .int .u8 0 :: .int .u8 0 :: .int .u8 0 :: .int .u8 0 :: .int .u8 0 :: .int .u8 0 :: .int .u8 0 :: .int .u8 0 :: .int .u8 0 :: .int .u8 0 :: .int .u8 0 :: .int .u8 0 :: .int .u8 0 :: .int .u8 0 :: .int .u8 0 :: .int .u8 0 :: .int .u8 0 :: .int .u8 0 :: .int .u8 0 :: .int .u8 0 :: .int .u8 0 :: .int .u8 0 :: .int .u8 0 :: .int .u8 0 :: .int .u8 0 :: [])) 26)
  have hz := blkN (W := w.alloc (.cells (bV d) 26)) (o := .cells (List.toArray (.int .u8 0 :: .int .u8 0 :: .int .u8 0 :: .int .u8 0 :: .int .u8 0 :: .int .u8 0 :: .int .u8 0 :: .int .u8 0 :: .int .u8 0 :: .int .u8 0 :: .int .u8 0 :: .int .u8 0 :: .int .u8 0 :: .int .u8 0 :: .int .u8 0 :: .int .u8 0 :: .int .u8 0 :: .int .u8 0 :: .int .u8 0 :: .int .u8 0 :: .int .u8 0 :: .int .u8 0 :: .int .u8 0 :: .int .u8 0 :: .int .u8 0 :: .int .u8 0 :: .int .u8 0 :: .int .u8 0 :: .int .u8 0 :: .int .u8 0 :: .int .u8 0 :: .int .u8 0 :: [])) 26) (k := w.heap.size + 1) (by simp)
  have hB : Below w.heap.size w ((w.alloc (.cells (bV d) 26)).alloc (.cells (List.toArray (.int .u8 0 :: .int .u8 0 :: .int .u8 0 :: .int .u8 0 :: .int .u8 0 :: .int .u8 0 :: .int .u8 0 :: .int .u8 0 :: .int .u8 0 :: .int .u8 0 :: .int .u8 0 :: .int .u8 0 :: .int .u8 0 :: .int .u8 0 :: .int .u8 0 :: .int .u8 0 :: .int .u8 0 :: .int .u8 0 :: .int .u8 0 :: .int .u8 0 :: .int .u8 0 :: .int .u8 0 :: .int .u8 0 :: .int .u8 0 :: .int .u8 0 :: .int .u8 0 :: .int .u8 0 :: .int .u8 0 :: .int .u8 0 :: .int .u8 0 :: .int .u8 0 :: .int .u8 0 :: [])) 26)) := ((Below.refl _ _).alloc (Nat.le_refl _) _).alloc (by simp) _
  have hsz : ((w.alloc (.cells (bV d) 26)).alloc (.cells (List.toArray (.int .u8 0 :: .int .u8 0 :: .int .u8 0 :: .int .u8 0 :: .int .u8 0 :: .int .u8 0 :: .int .u8 0 :: .int .u8 0 :: .int .u8 0 :: .int .u8 0 :: .int .u8 0 :: .int .u8 0 :: .int .u8 0 :: .int .u8 0 :: .int .u8 0 :: .int .u8 0 :: .int .u8 0 :: .int .u8 0 :: .int .u8 0 :: .int .u8 0 :: .int .u8 0 :: .int .u8 0 :: .int .u8 0 :: .int .u8 0 :: .int .u8 0 :: .int .u8 0 :: .int .u8 0 :: .int .u8 0 :: .int .u8 0 :: .int .u8 0 :: .int .u8 0 :: .int .u8 0 :: [])) 26)).heap.size = w.heap.size + 2 := by simp
  have HD := Lib.hid (show _ ∧ _ ∧ _ ∧ Keys _ from ⟨hb, hz, hB, hK.below hB⟩)
  have HZ := Lib.hid (Nat.le_of_eq hsz.symm)
  clear hb hz hB hsz hK
  generalize (w.alloc (.cells (bV d) 26)).alloc (.cells (List.toArray (.int .u8 0 :: .int .u8 0 :: .int .u8 0 :: .int .u8 0 :: .int .u8 0 :: .int .u8 0 :: .int .u8 0 :: .int .u8 0 :: .int .u8 0 :: .int .u8 0 :: .int .u8 0 :: .int .u8 0 :: .int .u8 0 :: .int .u8 0 :: .int .u8 0 :: .int .u8 0 :: .int .u8 0 :: .int .u8 0 :: .int .u8 0 :: .int .u8 0 :: .int .u8 0 :: .int .u8 0 :: .int .u8 0 :: .int .u8 0 :: .int .u8 0 :: .int .u8 0 :: .int .u8 0 :: .int .u8 0 :: .int .u8 0 :: .int .u8 0 :: .int .u8 0 :: .int .u8 0 :: [])) 26) = W1 at *
  go_upto_region 6 with (go_at_call 33; refine (cl _).mono ?_; rintro e w' ⟨rfl, hw'⟩; subst w')
  have hs1 : ∀ w', Below W1.heap.size W1 w' → Below (w.heap.size + 1) W1 w' := fun w' h => h.mono (Nat.le_of_succ_le HZ.out)
  refine wp_region_from 0 14 (fun w' => Below (w.heap.size + 1) W1 w') (by kernel_rfl) (by kernel_rfl) (by decide) (by kernel_rfl) (hs1 _ (Below.refl _ _).drew) ?_
  simp only [List.drop_zero, List.take_succ_cons, List.take_zero]
  refine wpHeld_cons ((.slice (some ⟨pb, poff, none⟩) (m + 1 : Nat) pcap)) (by kernel_rfl) ?_ ?_
  · rintro w' -
    try go_simp
  refine wpHeld_cons ((.int .i64 m)) (by kernel_rfl) ?_ ?_
  · rintro w' -
    try go_simp
  refine wpHeld_cons (.pointer (some ⟨pb, poff + m * 32, none⟩)) (by kernel_rfl) ?_ ?_
  · rintro w' -
    go_simp
    intro h
    omega
  refine wpHeld_load (.tmp 37) (by kernel_rfl) (by kernel_rfl) (pb) (poff + m * 32) (by kernel_rfl) (P.getD m []) HL.out (fun w' hS => ((HR.out.1.below (HD.out.2.2.1.trans (hS.mono (Nat.le_succ _))) (Nat.le_refl _)).elem (Nat.lt_succ_self _)).range) ?_
  refine wpHeld_load (.tmp 4) (by kernel_rfl) (by kernel_rfl) (w.heap.size) (0) (by kernel_rfl) d hd (fun w' hS => (RowB.of_bV hd (blk_below HD.out.1 hS (Nat.lt_succ_self _))).range) ?_
  refine wpHeld_cons ((.int .i64 i)) (by kernel_rfl) ?_ ?_
  · rintro w' -
    try go_simp
  refine wpHeld_cons ((.int .i64 k)) (by kernel_rfl) ?_ ?_
  · rintro w' -
    try go_simp
  refine wpHeld_cons ((.int .i64 (i - k : Nat))) (by kernel_rfl) ?_ ?_
  · rintro w' -
    try go_simp
  refine wpHeld_cons ((.int .i64 n)) (by kernel_rfl) ?_ ?_
  · rintro w' -
    try go_simp
  refine wpHeld_cons ((.int .i64 k)) (by kernel_rfl) ?_ ?_
  · rintro w' -
    try go_simp
  refine wpHeld_cons ((.int .i64 (n - k : Nat))) (by kernel_rfl) ?_ ?_
  · rintro w' -
    try go_simp
  refine wpHeld_cons ((.slice (some ⟨pb, poff, none⟩) (m + 1 : Nat) pcap)) (by kernel_rfl) ?_ ?_
  · rintro w' -
    try go_simp
  refine wpHeld_cons ((.int .i64 m)) (by kernel_rfl) ?_ ?_
  · rintro w' -
    try go_simp
  refine wpHeld_cons ((.slice (some ⟨pb, poff, none⟩) m pcap)) (by kernel_rfl) ?_ ?_
  · rintro w' -
    try go_simp
  refine wpHeld_nil ?_
  go_simp
  refine wpAnyH_one (i := 14) (by kernel_rfl) rfl (by kernel_rfl) (fun K' hK' => ?_)
  go_simp
  have hb0 : Below W1.heap.size W1 W1.drew := (Below.refl _ _).drew
  refine (HR.out.2 (n - k) (by omega) (i - k) m (some ⟨pb, poff, none⟩) pb poff pcap (P.take m) _ (by omega) HS.out ((HR.out.1.below HD.out.2.2.1.drew (Nat.le_refl _)).take0 (by omega)) (by omega) (HD.out.2.2.2.below hb0)).mono ?_
  rintro e W2 ⟨rfl, hb2⟩
  rw [bV_dg]
  have hb2' := below_after hb0 hb2 (Nat.le_refl _)
  have HB2 := Lib.hid (show Below W1.heap.size W1 W2 ∧ _ ∧ Keys W2 from ⟨hb2', blk_below HD.out.2.1 hb2' (Array.getElem?_eq_some_iff.1 HD.out.2.1).1, HD.out.2.2.2.below hb2'⟩)
  clear hb0 hb2 hb2'
  go_simp
  refine hK' _ _ (hs1 _ HB2.out.1) ?_
  clear hK' K'
  refine wpAnyH_one (i := 15) (by kernel_rfl) rfl (by kernel_rfl) (fun K' hK' => ?_)
  go_simp
  refine (pair_any ⟨#[110, 111, 100, 101]⟩ (P.getD m []) (dgL (climbS d (i - k) (n - k) (P.take m))) HL.out (dgL_len _) (by decide) _ HB2.out.2.2).mono ?_
  rintro e W3 ⟨rfl, hb3⟩
  have hb3' := below_after HB2.out.1 hb3 HB2.out.1.size
  have HG := Lib.hid (show Below W1.heap.size W1 W3 ∧ _ from ⟨hb3', blk_below HB2.out.2.1 hb3 (Array.getElem?_eq_some_iff.1 HB2.out.2.1).1⟩)
  clear hb3 hb3'
  rw [← HT.out] at *
  refine hK' _ _ (hs1 _ HG.out.1) ?_
  clear hK' K'
  refine wpAnyH_one (i := 16) (by kernel_rfl) rfl (by kernel_rfl) (fun K' hK' => ?_)
  refine wp_store_row 26 (.tmp 8) (.tmp 50) rfl (w.heap.size + 1) (dgV (climbS d i n P)) rfl rfl 26 _ HG.out.2 (by rw [dgV_size]; kernel_rfl) (by rw [dgV_size]; rfl) (dgV_one _) ?_
  have hD4 := setRow_heap W3 (w.heap.size + 1) _ (dgV (climbS d i n P)) 26 (0, 0) HG.out.2
  have hB6 := below_setRow (HD.out.2.2.1.trans (HG.out.1.mono HD.out.2.2.1.size)) (show w.heap.size ≤ w.heap.size + 1 by omega) (dgV (climbS d i n P))
  have hBS := below_setRow (HG.out.1.mono (Nat.le_of_succ_le HZ.out)) (Nat.le_refl _) (dgV (climbS d i n P))
  generalize W3.setRow (w.heap.size + 1) (dgV (climbS d i n P)) = W6 at *
  go_simp
  refine hK' _ _ hBS ?_
  clear hK' K'
  refine wpAnyH_done (by kernel_rfl) ?_ _
  refine NoPanic.normal ?_
  go_wp2
  refine bodyPost_ret (v := .agg (dgV (climbS d i n P))) ?_ rfl ⟨rfl, hB6⟩
  exact results_cell_row Tryd.results40 _ _ (w.heap.size + 1) 26 (dgV (climbS d i n P)) (0, 0) _ rfl hD4 Tryd.underlying26 rfl (by rw [dgV_size]; kernel_rfl)
theorem climb_any (d : List Int) (hd : d.length = 32) : ∀ (n : Nat), n ≤ 1099511627776 → ∀ (i m : Nat) (pa : Option Addr) (pb poff pcap : Nat) (P : List (List Int)) (w : World), i < n → stepsN i n = m → DigR w pa pb poff m P → m ≤ pcap → Keys w → Calls Tryd.prog 40 #[.agg (bV d), .int .i64 i, .int .i64 n, .slice pa m pcap] w fun e w' => e = .returned (.agg (dgV (climbS d i n P))) ∧ Below w.heap.size w w' := by
  intro n
  induction n using Nat.strongRecOn with
  | ind n ih =>
    intro hn i m pa pb poff pcap P w hi hm hP hc hK
    by_cases h1 : 1 < n
    · have IH := fun n' hn' i m pa pb poff pcap P w hi hm hP hc hK => ih n' hn' (by omega) i m pa pb poff pcap P w hi hm hP hc hK
      by_cases hik : i < halfN n
      · have hs := stepsN_low h1 rfl hik
        obtain ⟨q, rfl⟩ : ∃ q, m = q + 1 := ⟨m - 1, by omega⟩
        exact climb_node1 n i _ q rfl h1 hn d hd IH pa pb poff pcap P w hi hik hm hP hc hK
      · have hs := stepsN_high h1 rfl (by omega : halfN n ≤ i)
        obtain ⟨q, rfl⟩ : ∃ q, m = q + 1 := ⟨m - 1, by omega⟩
        exact climb_node2 n i _ q rfl h1 hn d hd IH pa pb poff pcap P w hi (by omega) hm hP hc hK
    · obtain rfl : n = 1 := by omega
      exact climb_leaf d hd i _ P w hK
end Go.Proofs.YthbjjfblapfjdaaDoor
