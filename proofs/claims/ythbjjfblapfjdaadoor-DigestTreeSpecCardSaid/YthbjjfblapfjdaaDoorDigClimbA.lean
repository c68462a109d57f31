/- Climb (layer 2), and the reference's. -/
import Derived.Test.YthbjjfblapfjdaaDoorDigPathA
namespace Go.Proofs.YthbjjfblapfjdaaDoor
open Go.ChangeShapes Go.WideShapes Go.ChangeAt Go.RowKit
theorem build0 : Array.foldl (fun (cs : Array Value) (x : Value × Nat) => cs.setIfInBounds x.2 x.1) (Array.replicate 32 (Value.int .u8 0)) #[] 0 0 = Array.replicate 32 (Value.int .u8 0) := rfl
/-- The digest that is all zeros. -/
def zL : List Int := List.replicate 32 0
theorem zL_len : zL.length = 32 := rfl
theorem zL_val : (List.toArray (Value.int .u8 0 :: Value.int .u8 0 :: Value.int .u8 0 :: Value.int .u8 0 :: Value.int .u8 0 :: Value.int .u8 0 :: Value.int .u8 0 :: Value.int .u8 0 :: Value.int .u8 0 :: Value.int .u8 0 :: Value.int .u8 0 :: Value.int .u8 0 :: Value.int .u8 0 :: Value.int .u8 0 :: Value.int .u8 0 :: Value.int .u8 0 :: Value.int .u8 0 :: Value.int .u8 0 :: Value.int .u8 0 :: Value.int .u8 0 :: Value.int .u8 0 :: Value.int .u8 0 :: Value.int .u8 0 :: Value.int .u8 0 :: Value.int .u8 0 :: Value.int .u8 0 :: Value.int .u8 0 :: Value.int .u8 0 :: Value.int .u8 0 :: Value.int .u8 0 :: Value.int .u8 0 :: Value.int .u8 0 :: []) : Array Value) = bV zL := rfl
theorem results_row_tmp {fn : Func} {p u : Tmp} (h : fn.results = #[.cell p 26, .tmp u]) (tmps : Array Value) (w : World) (g : Nat) (t : TypeId) (cs : Array Value) (fr : Nat × Nat)
    (hp : tmps.getD p undef = .pointer (some ⟨g, 0, none⟩)) (hg : w.heap[g]? = some (.cells cs t fr)) (hi : (Tryd.prog.info? 26).map (·.size) = some cs.size) (v : Value) (hv : tmps.getD u undef = v) :
    (results fn tmps).run Tryd.prog w = .ok (.tuple #[.agg cs, v]) w := by
  rw [results_cell_tmp h, hp, hv]
  simp [asAddr, run_loadVar_row w g t 26 cs fr _ hg Tryd.underlying26 rfl hi]
/-- May one climb? -/
def ClimbOk (i n : Int) (m : Nat) : Prop := ∃ j k : Nat, i = j ∧ n = k ∧ j < k ∧ k ≤ 1099511627776 ∧ stepsN j k = m
/-- What Climb answers. -/
def ClimbR (d : List Int) (i n : Int) (m : Nat) (P : List (List Int)) (e : Ending) : Prop :=
  (∃ j k : Nat, i = j ∧ n = k ∧ j < k ∧ k ≤ 1099511627776 ∧ stepsN j k = m ∧ e = .returned (.tuple #[.agg (bV (dgL (climbS d j k P))), .int .i64 0])) ∨ (¬ ClimbOk i n m ∧ e = .returned (.tuple #[.agg (bV zL), .int .i64 1]))
set_option maxRecDepth 100000 in
set_option maxHeartbeats 4000000 in
theorem climbE_any (d : List Int) (hd : d.length = 32) (i n : Int) (pa : Option Addr) (pb poff m pcap : Nat) (P : List (List Int)) (w : World) (hP : DigR w pa pb poff m P) (hcap : m ≤ pcap) (hK : Keys w) :
    Calls Tryd.prog 22 #[.agg (bV d), .int .i64 i, .int .i64 n, .slice pa m pcap] w fun e w' => ClimbR d i n m P e ∧ Below w.heap.size w w' := by
  have bad : ¬ ClimbOk i n m → ((n < 1 ∨ n > 1099511627776 ∨ i < 0 ∨ i ≥ n) ∨ ∃ j k : Nat, i = j ∧ n = k ∧ j < k ∧ k ≤ 1099511627776 ∧ stepsN j k ≠ m) := by
    intro h
    by_cases c : n < 1 ∨ n > 1099511627776 ∨ i < 0 ∨ i ≥ n
    · exact .inl c
    · obtain ⟨j, rfl⟩ := Int.eq_ofNat_of_zero_le (a := i) (by omega)
      obtain ⟨k, rfl⟩ := Int.eq_ofNat_of_zero_le (a := n) (by omega)
      exact .inr ⟨j, k, rfl, rfl, by omega, by omega, fun hs => h ⟨j, k, rfl, rfl, by omega, by omega, hs⟩⟩
  by_cases hok : ClimbOk i n m
  · obtain ⟨j, k, rfl, rfl, hjk, hk, hs⟩ := hok
    have hs2 := hs
    clear bad
    have i1 : ¬ (k : Int) < 1 := by omega
    have i2 : ¬ (k : Int) > 1099511627776 := by omega
    have i3 : ¬ (j : Int) < 0 := by omega
    have i4 : ¬ (j : Int) ≥ (k : Int) := by omega
    have i5 : ¬ (1099511627776 : Int) < (k : Int) := by omega
    have i6 : ¬ (k : Int) ≤ (j : Int) := by omega
    have cs := fun W => steps_any j k hjk hk W
    rw [hs] at cs
    have HR := Lib.hid (show _ ∧ _ ∧ _ from ⟨hP, hs2, hK⟩)
    clear hP hs hs2 hK
    go_enter Tryd.func22, Tryd.ntmps22
    go_upto_region 1 with fail
    have hb := blk_alloc (blk_new w (.cells (bV d) 26)) (.cells (List.toArray (.int .u8 0 :: .int .u8 0 :: .int .u8 0 :: .int .u8 0 :: .int .u8 0 :: .int .u8 0 :: .int .u8 0 :: .int .u8 0 :: .int .u8 0 :: .int .u8 0 :: .int .u8 0 :: .int .u8 0 :: .int .u8 0 :: .int .u8 0 :: .int .u8 0 :: .int .u8 0 :: .int .u8 0 :: .int .u8 0 :: .int .u8 0 :: .int .u8 0 :: .int .u8 0 :: .int .u8 0 :: .int .u8 0 :: .int .u8 0 :: .int .u8 0 :: .int .u8 0 :: .int .u8 0 :: .int .u8 0 :: .int .u8 0 :: .int .u8 0 :: .int .u8 0 :: .int .u8 0 :: [])) 26)
    have hz := blkN (W := w.alloc (.cells (bV d) 26)) (o := .cells (List.toArray (.int .u8 0 :: .int .u8 0 :: .int .u8 0 :: .int .u8 0 :: .int .u8 0 :: .int .u8 0 :: .int .u8 0 :: .int .u8 0 :: .int .u8 0 :: .int .u8 0 :: .int .u8 0 :: .int .u8 0 :: .int .u8 0 :: .int .u8 0 :: .int .u8 0 :: .int .u8 0 :: .int .u8 0 :: .int .u8 0 :: .int .u8 0 :: .int .u8 0 :: .int .u8 0 :: .int .u8 0 :: .int .u8 0 :: .int .u8 0 :: .int .u8 0 :: .int .u8 0 :: .int .u8 0 :: .int .u8 0 :: .int .u8 0 :: .int .u8 0 :: .int .u8 0 :: .int .u8 0 :: [])) 26) (k := w.heap.size + 1) (by simp)
    have hB : Below w.heap.size w ((w.alloc (.cells (bV d) 26)).alloc (.cells (List.toArray (.int .u8 0 :: .int .u8 0 :: .int .u8 0 :: .int .u8 0 :: .int .u8 0 :: .int .u8 0 :: .int .u8 0 :: .int .u8 0 :: .int .u8 0 :: .int .u8 0 :: .int .u8 0 :: .int .u8 0 :: .int .u8 0 :: .int .u8 0 :: .int .u8 0 :: .int .u8 0 :: .int .u8 0 :: .int .u8 0 :: .int .u8 0 :: .int .u8 0 :: .int .u8 0 :: .int .u8 0 :: .int .u8 0 :: .int .u8 0 :: .int .u8 0 :: .int .u8 0 :: .int .u8 0 :: .int .u8 0 :: .int .u8 0 :: .int .u8 0 :: .int .u8 0 :: .int .u8 0 :: [])) 26)) := ((Below.refl _ _).alloc (Nat.le_refl _) _).alloc (by simp) _
    have HD := Lib.hid (show _ ∧ _ ∧ _ from ⟨hb, hz, hB⟩)
    clear hb hz hB
    generalize (w.alloc (.cells (bV d) 26)).alloc (.cells (List.toArray (.int .u8 0 :: .int .u8 0 :: .int .u8 0 :: .int .u8 0 :: .int .u8 0 :: .int .u8 0 :: .int .u8 0 :: .int .u8 0 :: .int .u8 0 :: .int .u8 0 :: .int .u8 0 :: .int .u8 0 :: .int .u8 0 :: .int .u8 0 :: .int .u8 0 :: .int .u8 0 :: .int .u8 0 :: .int .u8 0 :: .int .u8 0 :: .int .u8 0 :: .int .u8 0 :: .int .u8 0 :: .int .u8 0 :: .int .u8 0 :: .int .u8 0 :: .int .u8 0 :: .int .u8 0 :: .int .u8 0 :: .int .u8 0 :: .int .u8 0 :: .int .u8 0 :: .int .u8 0 :: [])) 26) = W1 at *
    go_upto_region 3 with (go_at_call 39; refine (cs _).mono ?_; rintro e w' ⟨rfl, hw'⟩; subst w')
    refine wp_region_lit ?_
    refine wpList_load_row rfl _ (.tmp 4) rfl w.heap.size rfl 26 (bV d) (0, 0) _ HD.out.1 Tryd.underlying26 rfl (by rw [bV_size, hd]; kernel_rfl) ?_
    go_wp2_with fail
    refine (climb_any d hd k hk j m pa pb poff pcap P _ hjk HR.out.2.1 (HR.out.1.below HD.out.2.2 (Nat.le_refl _)) hcap (HR.out.2.2.below HD.out.2.2)).mono ?_
    rintro e W5 ⟨rfl, hb5⟩
    have hd5 := blk_below HD.out.2.1 hb5 (Array.getElem?_eq_some_iff.1 HD.out.2.1).1
    have hB5 := below_after HD.out.2.2 hb5 HD.out.2.2.size
    have HG := Lib.hid (show _ ∧ _ from ⟨hd5, hB5⟩)
    clear hd5 hB5 hb5
    go_wp2_with (with_reducible refine held (o := ⟨none, _, _, _, _, _⟩) ?_)
    unfold Held
    refine wpList_store_row rfl _ (.tmp 8) (.tmp 38) rfl (w.heap.size + 1) (dgV (climbS d j k P)) rfl rfl 26 _ HG.out.1 (by rw [dgV_size]; kernel_rfl) (by rw [dgV_size]; rfl) (dgV_one _) ?_
    have hD4 := setRow_heap W5 (w.heap.size + 1) _ (dgV (climbS d j k P)) 26 (0, 0) HG.out.1
    have hB6 := below_setRow HG.out.2 (show w.heap.size ≤ w.heap.size + 1 by omega) (dgV (climbS d j k P))
    generalize W5.setRow (w.heap.size + 1) (dgV (climbS d j k P)) = W6 at *
    go_wp2
    refine bodyPost_ret (v := .tuple #[.agg (dgV (climbS d j k P)), .int .i64 0]) ?_ rfl ⟨.inl ⟨j, k, rfl, rfl, hjk, hk, HR.out.2.1, by rw [bV_dg]⟩, hB6⟩
    exact results_row_tmp Tryd.results22 _ _ (w.heap.size + 1) 26 (dgV (climbS d j k P)) (0, 0) rfl hD4 (by rw [dgV_size]; kernel_rfl) _ rfl
  · have b := bad hok
    have HO := Lib.hid hok
    clear bad hok hP hK
    by_cases c0 : n < 1
    · have e0 : n < 1 := by omega
      clear b
      go_enter Tryd.func22, Tryd.ntmps22
      go_upto_region 1 with fail
      have hb := blk_alloc (blk_new w (.cells (bV d) 26)) (.cells (List.toArray (.int .u8 0 :: .int .u8 0 :: .int .u8 0 :: .int .u8 0 :: .int .u8 0 :: .int .u8 0 :: .int .u8 0 :: .int .u8 0 :: .int .u8 0 :: .int .u8 0 :: .int .u8 0 :: .int .u8 0 :: .int .u8 0 :: .int .u8 0 :: .int .u8 0 :: .int .u8 0 :: .int .u8 0 :: .int .u8 0 :: .int .u8 0 :: .int .u8 0 :: .int .u8 0 :: .int .u8 0 :: .int .u8 0 :: .int .u8 0 :: .int .u8 0 :: .int .u8 0 :: .int .u8 0 :: .int .u8 0 :: .int .u8 0 :: .int .u8 0 :: .int .u8 0 :: .int .u8 0 :: [])) 26)
      have hz := blkN (W := w.alloc (.cells (bV d) 26)) (o := .cells (List.toArray (.int .u8 0 :: .int .u8 0 :: .int .u8 0 :: .int .u8 0 :: .int .u8 0 :: .int .u8 0 :: .int .u8 0 :: .int .u8 0 :: .int .u8 0 :: .int .u8 0 :: .int .u8 0 :: .int .u8 0 :: .int .u8 0 :: .int .u8 0 :: .int .u8 0 :: .int .u8 0 :: .int .u8 0 :: .int .u8 0 :: .int .u8 0 :: .int .u8 0 :: .int .u8 0 :: .int .u8 0 :: .int .u8 0 :: .int .u8 0 :: .int .u8 0 :: .int .u8 0 :: .int .u8 0 :: .int .u8 0 :: .int .u8 0 :: .int .u8 0 :: .int .u8 0 :: .int .u8 0 :: [])) 26) (k := w.heap.size + 1) (by simp)
      have hB : Below w.heap.size w ((w.alloc (.cells (bV d) 26)).alloc (.cells (List.toArray (.int .u8 0 :: .int .u8 0 :: .int .u8 0 :: .int .u8 0 :: .int .u8 0 :: .int .u8 0 :: .int .u8 0 :: .int .u8 0 :: .int .u8 0 :: .int .u8 0 :: .int .u8 0 :: .int .u8 0 :: .int .u8 0 :: .int .u8 0 :: .int .u8 0 :: .int .u8 0 :: .int .u8 0 :: .int .u8 0 :: .int .u8 0 :: .int .u8 0 :: .int .u8 0 :: .int .u8 0 :: .int .u8 0 :: .int .u8 0 :: .int .u8 0 :: .int .u8 0 :: .int .u8 0 :: .int .u8 0 :: .int .u8 0 :: .int .u8 0 :: .int .u8 0 :: .int .u8 0 :: [])) 26)) := ((Below.refl _ _).alloc (Nat.le_refl _) _).alloc (by simp) _
      have HD := Lib.hid (show _ ∧ _ ∧ _ from ⟨hb, hz, hB⟩)
      clear hb hz hB
      generalize (w.alloc (.cells (bV d) 26)).alloc (.cells (List.toArray (.int .u8 0 :: .int .u8 0 :: .int .u8 0 :: .int .u8 0 :: .int .u8 0 :: .int .u8 0 :: .int .u8 0 :: .int .u8 0 :: .int .u8 0 :: .int .u8 0 :: .int .u8 0 :: .int .u8 0 :: .int .u8 0 :: .int .u8 0 :: .int .u8 0 :: .int .u8 0 :: .int .u8 0 :: .int .u8 0 :: .int .u8 0 :: .int .u8 0 :: .int .u8 0 :: .int .u8 0 :: .int .u8 0 :: .int .u8 0 :: .int .u8 0 :: .int .u8 0 :: .int .u8 0 :: .int .u8 0 :: .int .u8 0 :: .int .u8 0 :: .int .u8 0 :: .int .u8 0 :: [])) 26) = W1 at *
      go_upto_region 2 with fail
      go_wp2_with (with_reducible refine held (o := ⟨none, _, _, _, _, _⟩) ?_)
      unfold Held
      rw [zL_val]
      refine wpList_store_row rfl _ (.tmp 8) (.tmp 33) rfl (w.heap.size + 1) (bV zL) rfl rfl 26 _ HD.out.2.1 (by kernel_rfl) (by rfl) (bV_one _) ?_
      have hD4 := setRow_heap W1 (w.heap.size + 1) _ (bV zL) 26 (0, 0) HD.out.2.1
      have hB6 := below_setRow HD.out.2.2 (show w.heap.size ≤ w.heap.size + 1 by omega) (bV zL)
      generalize W1.setRow (w.heap.size + 1) (bV zL) = W6 at *
      go_wp2
      refine bodyPost_ret (v := .tuple #[.agg (bV zL), .int .i64 1]) ?_ rfl ⟨.inr ⟨HO.out, rfl⟩, hB6⟩
      exact results_row_tmp Tryd.results22 _ _ (w.heap.size + 1) 26 (bV zL) (0, 0) rfl hD4 (by kernel_rfl) _ rfl
    have e0 : ¬ n < 1 := by omega
    by_cases c1 : n > 1099511627776
    · have e1 : (1099511627776 : Int) < n := by omega
      clear b
      go_enter Tryd.func22, Tryd.ntmps22
      go_upto_region 1 with fail
      have hb := blk_alloc (blk_new w (.cells (bV d) 26)) (.cells (List.toArray (.int .u8 0 :: .int .u8 0 :: .int .u8 0 :: .int .u8 0 :: .int .u8 0 :: .int .u8 0 :: .int .u8 0 :: .int .u8 0 :: .int .u8 0 :: .int .u8 0 :: .int .u8 0 :: .int .u8 0 :: .int .u8 0 :: .int .u8 0 :: .int .u8 0 :: .int .u8 0 :: .int .u8 0 :: .int .u8 0 :: .int .u8 0 :: .int .u8 0 :: .int .u8 0 :: .int .u8 0 :: .int .u8 0 :: .int .u8 0 :: .int .u8 0 :: .int .u8 0 :: .int .u8 0 :: .int .u8 0 :: .int .u8 0 :: .int .u8 0 :: .int .u8 0 :: .int .u8 0 :: [])) 26)
      have hz := blkN (W := w.alloc (.cells (bV d) 26)) (o := .cells (List.toArray (.int .u8 0 :: .int .u8 0 :: .int .u8 0 :: .int .u8 0 :: .int .u8 0 :: .int .u8 0 :: .int .u8 0 :: .int .u8 0 :: .int .u8 0 :: .int .u8 0 :: .int .u8 0 :: .int .u8 0 :: .int .u8 0 :: .int .u8 0 :: .int .u8 0 :: .int .u8 0 :: .int .u8 0 :: .int .u8 0 :: .int .u8 0 :: .int .u8 0 :: .int .u8 0 :: .int .u8 0 :: .int .u8 0 :: .int .u8 0 :: .int .u8 0 :: .int .u8 0 :: .int .u8 0 :: .int .u8 0 :: .int .u8 0 :: .int .u8 0 :: .int .u8 0 :: .int .u8 0 :: [])) 26) (k := w.heap.size + 1) (by simp)
      have hB : Below w.heap.size w ((w.alloc (.cells (bV d) 26)).alloc (.cells (List.toArray (.int .u8 0 :: .int .u8 0 :: .int .u8 0 :: .int .u8 0 :: .int .u8 0 :: .int .u8 0 :: .int .u8 0 :: .int .u8 0 :: .int .u8 0 :: .int .u8 0 :: .int .u8 0 :: .int .u8 0 :: .int .u8 0 :: .int .u8 0 :: .int .u8 0 :: .int .u8 0 :: .int .u8 0 :: .int .u8 0 :: .int .u8 0 :: .int .u8 0 :: .int .u8 0 :: .int .u8 0 :: .int .u8 0 :: .int .u8 0 :: .int .u8 0 :: .int .u8 0 :: .int .u8 0 :: .int .u8 0 :: .int .u8 0 :: .int .u8 0 :: .int .u8 0 :: .int .u8 0 :: [])) 26)) := ((Below.refl _ _).alloc (Nat.le_refl _) _).alloc (by simp) _
      have HD := Lib.hid (show _ ∧ _ ∧ _ from ⟨hb, hz, hB⟩)
      clear hb hz hB
      generalize (w.alloc (.cells (bV d) 26)).alloc (.cells (List.toArray (.int .u8 0 :: .int .u8 0 :: .int .u8 0 :: .int .u8 0 :: .int .u8 0 :: .int .u8 0 :: .int .u8 0 :: .int .u8 0 :: .int .u8 0 :: .int .u8 0 :: .int .u8 0 :: .int .u8 0 :: .int .u8 0 :: .int .u8 0 :: .int .u8 0 :: .int .u8 0 :: .int .u8 0 :: .int .u8 0 :: .int .u8 0 :: .int .u8 0 :: .int .u8 0 :: .int .u8 0 :: .int .u8 0 :: .int .u8 0 :: .int .u8 0 :: .int .u8 0 :: .int .u8 0 :: .int .u8 0 :: .int .u8 0 :: .int .u8 0 :: .int .u8 0 :: .int .u8 0 :: [])) 26) = W1 at *
      go_upto_region 2 with fail
      go_wp2_with (with_reducible refine held (o := ⟨none, _, _, _, _, _⟩) ?_)
      unfold Held
      rw [zL_val]
      refine wpList_store_row rfl _ (.tmp 8) (.tmp 33) rfl (w.heap.size + 1) (bV zL) rfl rfl 26 _ HD.out.2.1 (by kernel_rfl) (by rfl) (bV_one _) ?_
      have hD4 := setRow_heap W1 (w.heap.size + 1) _ (bV zL) 26 (0, 0) HD.out.2.1
      have hB6 := below_setRow HD.out.2.2 (show w.heap.size ≤ w.heap.size + 1 by omega) (bV zL)
      generalize W1.setRow (w.heap.size + 1) (bV zL) = W6 at *
      go_wp2
      refine bodyPost_ret (v := .tuple #[.agg (bV zL), .int .i64 1]) ?_ rfl ⟨.inr ⟨HO.out, rfl⟩, hB6⟩
      exact results_row_tmp Tryd.results22 _ _ (w.heap.size + 1) 26 (bV zL) (0, 0) rfl hD4 (by kernel_rfl) _ rfl
    have e1 : ¬ (1099511627776 : Int) < n := by omega
    by_cases c2 : i < 0
    · have e2 : i < 0 := by omega
      clear b
      go_enter Tryd.func22, Tryd.ntmps22
      go_upto_region 1 with fail
      have hb := blk_alloc (blk_new w (.cells (bV d) 26)) (.cells (List.toArray (.int .u8 0 :: .int .u8 0 :: .int .u8 0 :: .int .u8 0 :: .int .u8 0 :: .int .u8 0 :: .int .u8 0 :: .int .u8 0 :: .int .u8 0 :: .int .u8 0 :: .int .u8 0 :: .int .u8 0 :: .int .u8 0 :: .int .u8 0 :: .int .u8 0 :: .int .u8 0 :: .int .u8 0 :: .int .u8 0 :: .int .u8 0 :: .int .u8 0 :: .int .u8 0 :: .int .u8 0 :: .int .u8 0 :: .int .u8 0 :: .int .u8 0 :: .int .u8 0 :: .int .u8 0 :: .int .u8 0 :: .int .u8 0 :: .int .u8 0 :: .int .u8 0 :: .int .u8 0 :: [])) 26)
      have hz := blkN (W := w.alloc (.cells (bV d) 26)) (o := .cells (List.toArray (.int .u8 0 :: .int .u8 0 :: .int .u8 0 :: .int .u8 0 :: .int .u8 0 :: .int .u8 0 :: .int .u8 0 :: .int .u8 0 :: .int .u8 0 :: .int .u8 0 :: .int .u8 0 :: .int .u8 0 :: .int .u8 0 :: .int .u8 0 :: .int .u8 0 :: .int .u8 0 :: .int .u8 0 :: .int .u8 0 :: .int .u8 0 :: .int .u8 0 :: .int .u8 0 :: .int .u8 0 :: .int .u8 0 :: .int .u8 0 :: .int .u8 0 :: .int .u8 0 :: .int .u8 0 :: .int .u8 0 :: .int .u8 0 :: .int .u8 0 :: .int .u8 0 :: .int .u8 0 :: [])) 26) (k := w.heap.size + 1) (by simp)
      have hB : Below w.heap.size w ((w.alloc (.cells (bV d) 26)).alloc (.cells (List.toArray (.int .u8 0 :: .int .u8 0 :: .int .u8 0 :: .int .u8 0 :: .int .u8 0 :: .int .u8 0 :: .int .u8 0 :: .int .u8 0 :: .int .u8 0 :: .int .u8 0 :: .int .u8 0 :: .int .u8 0 :: .int .u8 0 :: .int .u8 0 :: .int .u8 0 :: .int .u8 0 :: .int .u8 0 :: .int .u8 0 :: .int .u8 0 :: .int .u8 0 :: .int .u8 0 :: .int .u8 0 :: .int .u8 0 :: .int .u8 0 :: .int .u8 0 :: .int .u8 0 :: .int .u8 0 :: .int .u8 0 :: .int .u8 0 :: .int .u8 0 :: .int .u8 0 :: .int .u8 0 :: [])) 26)) := ((Below.refl _ _).alloc (Nat.le_refl _) _).alloc (by simp) _
      have HD := Lib.hid (show _ ∧ _ ∧ _ from ⟨hb, hz, hB⟩)
      clear hb hz hB
      generalize (w.alloc (.cells (bV d) 26)).alloc (.cells (List.toArray (.int .u8 0 :: .int .u8 0 :: .int .u8 0 :: .int .u8 0 :: .int .u8 0 :: .int .u8 0 :: .int .u8 0 :: .int .u8 0 :: .int .u8 0 :: .int .u8 0 :: .int .u8 0 :: .int .u8 0 :: .int .u8 0 :: .int .u8 0 :: .int .u8 0 :: .int .u8 0 :: .int .u8 0 :: .int .u8 0 :: .int .u8 0 :: .int .u8 0 :: .int .u8 0 :: .int .u8 0 :: .int .u8 0 :: .int .u8 0 :: .int .u8 0 :: .int .u8 0 :: .int .u8 0 :: .int .u8 0 :: .int .u8 0 :: .int .u8 0 :: .int .u8 0 :: .int .u8 0 :: [])) 26) = W1 at *
      go_upto_region 2 with fail
      go_wp2_with (with_reducible refine held (o := ⟨none, _, _, _, _, _⟩) ?_)
      unfold Held
      rw [zL_val]
      refine wpList_store_row rfl _ (.tmp 8) (.tmp 33) rfl (w.heap.size + 1) (bV zL) rfl rfl 26 _ HD.out.2.1 (by kernel_rfl) (by rfl) (bV_one _) ?_
      have hD4 := setRow_heap W1 (w.heap.size + 1) _ (bV zL) 26 (0, 0) HD.out.2.1
      have hB6 := below_setRow HD.out.2.2 (show w.heap.size ≤ w.heap.size + 1 by omega) (bV zL)
      generalize W1.setRow (w.heap.size + 1) (bV zL) = W6 at *
      go_wp2
      refine bodyPost_ret (v := .tuple #[.agg (bV zL), .int .i64 1]) ?_ rfl ⟨.inr ⟨HO.out, rfl⟩, hB6⟩
      exact results_row_tmp Tryd.results22 _ _ (w.heap.size + 1) 26 (bV zL) (0, 0) rfl hD4 (by kernel_rfl) _ rfl
    have e2 : ¬ i < 0 := by omega
    by_cases c3 : i ≥ n
    · have e3 : n ≤ i := by omega
      clear b
      go_enter Tryd.func22, Tryd.ntmps22
      go_upto_region 1 with fail
      have hb := blk_alloc (blk_new w (.cells (bV d) 26)) (.cells (List.toArray (.int .u8 0 :: .int .u8 0 :: .int .u8 0 :: .int .u8 0 :: .int .u8 0 :: .int .u8 0 :: .int .u8 0 :: .int .u8 0 :: .int .u8 0 :: .int .u8 0 :: .int .u8 0 :: .int .u8 0 :: .int .u8 0 :: .int .u8 0 :: .int .u8 0 :: .int .u8 0 :: .int .u8 0 :: .int .u8 0 :: .int .u8 0 :: .int .u8 0 :: .int .u8 0 :: .int .u8 0 :: .int .u8 0 :: .int .u8 0 :: .int .u8 0 :: .int .u8 0 :: .int .u8 0 :: .int .u8 0 :: .int .u8 0 :: .int .u8 0 :: .int .u8 0 :: .int .u8 0 :: [])) 26)
      have hz := blkN (W := w.alloc (.cells (bV d) 26)) (o := .cells (List.toArray (.int .u8 0 :: .int .u8 0 :: .int .u8 0 :: .int .u8 0 :: .int .u8 0 :: .int .u8 0 :: .int .u8 0 :: .int .u8 0 :: .int .u8 0 :: .int .u8 0 :: .int .u8 0 :: .int .u8 0 :: .int .u8 0 :: .int .u8 0 :: .int .u8 0 :: .int .u8 0 :: .int .u8 0 :: .int .u8 0 :: .int .u8 0 :: .int .u8 0 :: .int .u8 0 :: .int .u8 0 :: .int .u8 0 :: .int .u8 0 :: .int .u8 0 :: .int .u8 0 :: .int .u8 0 :: .int .u8 0 :: .int .u8 0 :: .int .u8 0 :: .int .u8 0 :: .int .u8 0 :: [])) 26) (k := w.heap.size + 1) (by simp)
      have hB : Below w.heap.size w ((w.alloc (.cells (bV d) 26)).alloc (.cells (List.toArray (.int .u8 0 :: .int .u8 0 :: .int .u8 0 :: .int .u8 0 :: .int .u8 0 :: .int .u8 0 :: .int .u8 0 :: .int .u8 0 :: .int .u8 0 :: .int .u8 0 :: .int .u8 0 :: .int .u8 0 :: .int .u8 0 :: .int .u8 0 :: .int .u8 0 :: .int .u8 0 :: .int .u8 0 :: .int .u8 0 :: .int .u8 0 :: .int .u8 0 :: .int .u8 0 :: .int .u8 0 :: .int .u8 0 :: .int .u8 0 :: .int .u8 0 :: .int .u8 0 :: .int .u8 0 :: .int .u8 0 :: .int .u8 0 :: .int .u8 0 :: .int .u8 0 :: .int .u8 0 :: [])) 26)) := ((Below.refl _ _).alloc (Nat.le_refl _) _).alloc (by simp) _
      have HD := Lib.hid (show _ ∧ _ ∧ _ from ⟨hb, hz, hB⟩)
      clear hb hz hB
      generalize (w.alloc (.cells (bV d) 26)).alloc (.cells (List.toArray (.int .u8 0 :: .int .u8 0 :: .int .u8 0 :: .int .u8 0 :: .int .u8 0 :: .int .u8 0 :: .int .u8 0 :: .int .u8 0 :: .int .u8 0 :: .int .u8 0 :: .int .u8 0 :: .int .u8 0 :: .int .u8 0 :: .int .u8 0 :: .int .u8 0 :: .int .u8 0 :: .int .u8 0 :: .int .u8 0 :: .int .u8 0 :: .int .u8 0 :: .int .u8 0 :: .int .u8 0 :: .int .u8 0 :: .int .u8 0 :: .int .u8 0 :: .int .u8 0 :: .int .u8 0 :: .int .u8 0 :: .int .u8 0 :: .int .u8 0 :: .int .u8 0 :: .int .u8 0 :: [])) 26) = W1 at *
      go_upto_region 2 with fail
      go_wp2_with (with_reducible refine held (o := ⟨none, _, _, _, _, _⟩) ?_)
      unfold Held
      rw [zL_val]
      refine wpList_store_row rfl _ (.tmp 8) (.tmp 33) rfl (w.heap.size + 1) (bV zL) rfl rfl 26 _ HD.out.2.1 (by kernel_rfl) (by rfl) (bV_one _) ?_
      have hD4 := setRow_heap W1 (w.heap.size + 1) _ (bV zL) 26 (0, 0) HD.out.2.1
      have hB6 := below_setRow HD.out.2.2 (show w.heap.size ≤ w.heap.size + 1 by omega) (bV zL)
      generalize W1.setRow (w.heap.size + 1) (bV zL) = W6 at *
      go_wp2
      refine bodyPost_ret (v := .tuple #[.agg (bV zL), .int .i64 1]) ?_ rfl ⟨.inr ⟨HO.out, rfl⟩, hB6⟩
      exact results_row_tmp Tryd.results22 _ _ (w.heap.size + 1) 26 (bV zL) (0, 0) rfl hD4 (by kernel_rfl) _ rfl
    have e3 : ¬ n ≤ i := by omega
    rcases b with b | ⟨j, k, rfl, rfl, hjk, hk, hs⟩
    · omega
    · have f1 : ((m : Int) != (stepsN j k : Int)) = true := by simp; omega
      have cs := fun W => steps_any j k hjk hk W
      clear hs
      generalize stepsN j k = S at *
      go_enter Tryd.func22, Tryd.ntmps22
      go_upto_region 1 with fail
      have hb := blk_alloc (blk_new w (.cells (bV d) 26)) (.cells (List.toArray (.int .u8 0 :: .int .u8 0 :: .int .u8 0 :: .int .u8 0 :: .int .u8 0 :: .int .u8 0 :: .int .u8 0 :: .int .u8 0 :: .int .u8 0 :: .int .u8 0 :: .int .u8 0 :: .int .u8 0 :: .int .u8 0 :: .int .u8 0 :: .int .u8 0 :: .int .u8 0 :: .int .u8 0 :: .int .u8 0 :: .int .u8 0 :: .int .u8 0 :: .int .u8 0 :: .int .u8 0 :: .int .u8 0 :: .int .u8 0 :: .int .u8 0 :: .int .u8 0 :: .int .u8 0 :: .int .u8 0 :: .int .u8 0 :: .int .u8 0 :: .int .u8 0 :: .int .u8 0 :: [])) 26)
      have hz := blkN (W := w.alloc (.cells (bV d) 26)) (o := .cells (List.toArray (.int .u8 0 :: .int .u8 0 :: .int .u8 0 :: .int .u8 0 :: .int .u8 0 :: .int .u8 0 :: .int .u8 0 :: .int .u8 0 :: .int .u8 0 :: .int .u8 0 :: .int .u8 0 :: .int .u8 0 :: .int .u8 0 :: .int .u8 0 :: .int .u8 0 :: .int .u8 0 :: .int .u8 0 :: .int .u8 0 :: .int .u8 0 :: .int .u8 0 :: .int .u8 0 :: .int .u8 0 :: .int .u8 0 :: .int .u8 0 :: .int .u8 0 :: .int .u8 0 :: .int .u8 0 :: .int .u8 0 :: .int .u8 0 :: .int .u8 0 :: .int .u8 0 :: .int .u8 0 :: [])) 26) (k := w.heap.size + 1) (by simp)
      have hB : Below w.heap.size w ((w.alloc (.cells (bV d) 26)).alloc (.cells (List.toArray (.int .u8 0 :: .int .u8 0 :: .int .u8 0 :: .int .u8 0 :: .int .u8 0 :: .int .u8 0 :: .int .u8 0 :: .int .u8 0 :: .int .u8 0 :: .int .u8 0 :: .int .u8 0 :: .int .u8 0 :: .int .u8 0 :: .int .u8 0 :: .int .u8 0 :: .int .u8 0 :: .int .u8 0 :: .int .u8 0 :: .int .u8 0 :: .int .u8 0 :: .int .u8 0 :: .int .u8 0 :: .int .u8 0 :: .int .u8 0 :: .int .u8 0 :: .int .u8 0 :: .int .u8 0 :: .int .u8 0 :: .int .u8 0 :: .int .u8 0 :: .int .u8 0 :: .int .u8 0 :: [])) 26)) := ((Below.refl _ _).alloc (Nat.le_refl _) _).alloc (by simp) _
      have HD := Lib.hid (show _ ∧ _ ∧ _ from ⟨hb, hz, hB⟩)
      clear hb hz hB
      generalize (w.alloc (.cells (bV d) 26)).alloc (.cells (List.toArray (.int .u8 0 :: .int .u8 0 :: .int .u8 0 :: .int .u8 0 :: .int .u8 0 :: .int .u8 0 :: .int .u8 0 :: .int .u8 0 :: .int .u8 0 :: .int .u8 0 :: .int .u8 0 :: .int .u8 0 :: .int .u8 0 :: .int .u8 0 :: .int .u8 0 :: .int .u8 0 :: .int .u8 0 :: .int .u8 0 :: .int .u8 0 :: .int .u8 0 :: .int .u8 0 :: .int .u8 0 :: .int .u8 0 :: .int .u8 0 :: .int .u8 0 :: .int .u8 0 :: .int .u8 0 :: .int .u8 0 :: .int .u8 0 :: .int .u8 0 :: .int .u8 0 :: .int .u8 0 :: [])) 26) = W1 at *
      go_upto_region 2 with (go_at_call 39; refine (cs _).mono ?_; rintro e w' ⟨rfl, hw'⟩; subst w')
      go_wp2_with (with_reducible refine held (o := ⟨none, _, _, _, _, _⟩) ?_)
      unfold Held
      rw [zL_val]
      refine wpList_store_row rfl _ (.tmp 8) (.tmp 33) rfl (w.heap.size + 1) (bV zL) rfl rfl 26 _ HD.out.2.1 (by kernel_rfl) (by rfl) (bV_one _) ?_
      have hD4 := setRow_heap W1 (w.heap.size + 1) _ (bV zL) 26 (0, 0) HD.out.2.1
      have hB6 := below_setRow HD.out.2.2 (show w.heap.size ≤ w.heap.size + 1 by omega) (bV zL)
      generalize W1.setRow (w.heap.size + 1) (bV zL) = W6 at *
      go_wp2
      refine bodyPost_ret (v := .tuple #[.agg (bV zL), .int .i64 1]) ?_ rfl ⟨.inr ⟨HO.out, rfl⟩, hB6⟩
      exact results_row_tmp Tryd.results22 _ _ (w.heap.size + 1) 26 (bV zL) (0, 0) rfl hD4 (by kernel_rfl) _ rfl

set_option maxRecDepth 100000 in
set_option maxHeartbeats 4000000 in
theorem rclimbE_any (d : List Int) (hd : d.length = 32) (i n : Int) (pa : Option Addr) (pb poff m pcap : Nat) (P : List (List Int)) (w : World) (hP : DigR w pa pb poff m P) (hcap : m ≤ pcap) :
    Calls Tryd.prog 23 #[.agg (bV d), .int .i64 i, .int .i64 n, .slice pa m pcap] w fun e w' => ClimbR d i n m P e ∧ Below w.heap.size w w' := by
  have bad : ¬ ClimbOk i n m → ((n < 1 ∨ n > 1099511627776 ∨ i < 0 ∨ i ≥ n) ∨ ∃ j k : Nat, i = j ∧ n = k ∧ j < k ∧ k ≤ 1099511627776 ∧ stepsN j k ≠ m) := by
    intro h
    by_cases c : n < 1 ∨ n > 1099511627776 ∨ i < 0 ∨ i ≥ n
    · exact .inl c
    · obtain ⟨j, rfl⟩ := Int.eq_ofNat_of_zero_le (a := i) (by omega)
      obtain ⟨k, rfl⟩ := Int.eq_ofNat_of_zero_le (a := n) (by omega)
      exact .inr ⟨j, k, rfl, rfl, by omega, by omega, fun hs => h ⟨j, k, rfl, rfl, by omega, by omega, hs⟩⟩
  by_cases hok : ClimbOk i n m
  · obtain ⟨j, k, rfl, rfl, hjk, hk, hs⟩ := hok
    have hs2 := hs
    clear bad
    have i1 : ¬ (k : Int) < 1 := by omega
    have i2 : ¬ (k : Int) > 1099511627776 := by omega
    have i3 : ¬ (j : Int) < 0 := by omega
    have i4 : ¬ (j : Int) ≥ (k : Int) := by omega
    have i5 : ¬ (1099511627776 : Int) < (k : Int) := by omega
    have i6 : ¬ (k : Int) ≤ (j : Int) := by omega
    have cs := fun W => length_any k hk j W hjk
    rw [hs] at cs
    have HR := Lib.hid (show _ ∧ _ from ⟨hP, hs2⟩)
    clear hP hs hs2
    go_enter Tryd.func23, Tryd.ntmps23
    go_upto_region 1 with fail
    have hb := blk_alloc (blk_new w (.cells (bV d) 26)) (.cells (List.toArray (.int .u8 0 :: .int .u8 0 :: .int .u8 0 :: .int .u8 0 :: .int .u8 0 :: .int .u8 0 :: .int .u8 0 :: .int .u8 0 :: .int .u8 0 :: .int .u8 0 :: .int .u8 0 :: .int .u8 0 :: .int .u8 0 :: .int .u8 0 :: .int .u8 0 :: .int .u8 0 :: .int .u8 0 :: .int .u8 0 :: .int .u8 0 :: .int .u8 0 :: .int .u8 0 :: .int .u8 0 :: .int .u8 0 :: .int .u8 0 :: .int .u8 0 :: .int .u8 0 :: .int .u8 0 :: .int .u8 0 :: .int .u8 0 :: .int .u8 0 :: .int .u8 0 :: .int .u8 0 :: [])) 26)
    have hz := blkN (W := w.alloc (.cells (bV d) 26)) (o := .cells (List.toArray (.int .u8 0 :: .int .u8 0 :: .int .u8 0 :: .int .u8 0 :: .int .u8 0 :: .int .u8 0 :: .int .u8 0 :: .int .u8 0 :: .int .u8 0 :: .int .u8 0 :: .int .u8 0 :: .int .u8 0 :: .int .u8 0 :: .int .u8 0 :: .int .u8 0 :: .int .u8 0 :: .int .u8 0 :: .int .u8 0 :: .int .u8 0 :: .int .u8 0 :: .int .u8 0 :: .int .u8 0 :: .int .u8 0 :: .int .u8 0 :: .int .u8 0 :: .int .u8 0 :: .int .u8 0 :: .int .u8 0 :: .int .u8 0 :: .int .u8 0 :: .int .u8 0 :: .int .u8 0 :: [])) 26) (k := w.heap.size + 1) (by simp)
    have hB : Below w.heap.size w ((w.alloc (.cells (bV d) 26)).alloc (.cells (List.toArray (.int .u8 0 :: .int .u8 0 :: .int .u8 0 :: .int .u8 0 :: .int .u8 0 :: .int .u8 0 :: .int .u8 0 :: .int .u8 0 :: .int .u8 0 :: .int .u8 0 :: .int .u8 0 :: .int .u8 0 :: .int .u8 0 :: .int .u8 0 :: .int .u8 0 :: .int .u8 0 :: .int .u8 0 :: .int .u8 0 :: .int .u8 0 :: .int .u8 0 :: .int .u8 0 :: .int .u8 0 :: .int .u8 0 :: .int .u8 0 :: .int .u8 0 :: .int .u8 0 :: .int .u8 0 :: .int .u8 0 :: .int .u8 0 :: .int .u8 0 :: .int .u8 0 :: .int .u8 0 :: [])) 26)) := ((Below.refl _ _).alloc (Nat.le_refl _) _).alloc (by simp) _
    have HD := Lib.hid (show _ ∧ _ ∧ _ from ⟨hb, hz, hB⟩)
    clear hb hz hB
    generalize (w.alloc (.cells (bV d) 26)).alloc (.cells (List.toArray (.int .u8 0 :: .int .u8 0 :: .int .u8 0 :: .int .u8 0 :: .int .u8 0 :: .int .u8 0 :: .int .u8 0 :: .int .u8 0 :: .int .u8 0 :: .int .u8 0 :: .int .u8 0 :: .int .u8 0 :: .int .u8 0 :: .int .u8 0 :: .int .u8 0 :: .int .u8 0 :: .int .u8 0 :: .int .u8 0 :: .int .u8 0 :: .int .u8 0 :: .int .u8 0 :: .int .u8 0 :: .int .u8 0 :: .int .u8 0 :: .int .u8 0 :: .int .u8 0 :: .int .u8 0 :: .int .u8 0 :: .int .u8 0 :: .int .u8 0 :: .int .u8 0 :: .int .u8 0 :: [])) 26) = W1 at *
    go_upto_region 3 with (go_at_call 41; refine (cs _).mono ?_; rintro e w' ⟨rfl, hw'⟩; subst w')
    refine wp_region_lit ?_
    refine wpList_load_row rfl _ (.tmp 4) rfl w.heap.size rfl 26 (bV d) (0, 0) _ HD.out.1 Tryd.underlying26 rfl (by rw [bV_size, hd]; kernel_rfl) ?_
    go_wp2_with fail
    refine (rclimb_any d hd k hk j m pa pb poff pcap P _ hjk HR.out.2 (HR.out.1.below HD.out.2.2 (Nat.le_refl _)) hcap).mono ?_
    rintro e W5 ⟨rfl, hb5⟩
    have hd5 := blk_below HD.out.2.1 hb5 (Array.getElem?_eq_some_iff.1 HD.out.2.1).1
    have hB5 := below_after HD.out.2.2 hb5 HD.out.2.2.size
    have HG := Lib.hid (show _ ∧ _ from ⟨hd5, hB5⟩)
    clear hd5 hB5 hb5
    go_wp2_with (with_reducible refine held (o := ⟨none, _, _, _, _, _⟩) ?_)
    unfold Held
    refine wpList_store_row rfl _ (.tmp 8) (.tmp 38) rfl (w.heap.size + 1) (dgV (climbS d j k P)) rfl rfl 26 _ HG.out.1 (by rw [dgV_size]; kernel_rfl) (by rw [dgV_size]; rfl) (dgV_one _) ?_
    have hD4 := setRow_heap W5 (w.heap.size + 1) _ (dgV (climbS d j k P)) 26 (0, 0) HG.out.1
    have hB6 := below_setRow HG.out.2 (show w.heap.size ≤ w.heap.size + 1 by omega) (dgV (climbS d j k P))
    generalize W5.setRow (w.heap.size + 1) (dgV (climbS d j k P)) = W6 at *
    go_wp2
    refine bodyPost_ret (v := .tuple #[.agg (dgV (climbS d j k P)), .int .i64 0]) ?_ rfl ⟨.inl ⟨j, k, rfl, rfl, hjk, hk, HR.out.2, by rw [bV_dg]⟩, hB6⟩
    exact results_row_tmp Tryd.results23 _ _ (w.heap.size + 1) 26 (dgV (climbS d j k P)) (0, 0) rfl hD4 (by rw [dgV_size]; kernel_rfl) _ rfl
  · have b := bad hok
    have HO := Lib.hid hok
    clear bad hok hP
    by_cases c0 : n < 1
    · have e0 : n < 1 := by omega
      clear b
      go_enter Tryd.func23, Tryd.ntmps23
      go_upto_region 1 with fail
      have hb := blk_alloc (blk_new w (.cells (bV d) 26)) (.cells (List.toArray (.int .u8 0 :: .int .u8 0 :: .int .u8 0 :: .int .u8 0 :: .int .u8 0 :: .int .u8 0 :: .int .u8 0 :: .int .u8 0 :: .int .u8 0 :: .int .u8 0 :: .int .u8 0 :: .int .u8 0 :: .int .u8 0 :: .int .u8 0 :: .int .u8 0 :: .int .u8 0 :: .int .u8 0 :: .int .u8 0 :: .int .u8 0 :: .int .u8 0 :: .int .u8 0 :: .int .u8 0 :: .int .u8 0 :: .int .u8 0 :: .int .u8 0 :: .int .u8 0 :: .int .u8 0 :: .int .u8 0 :: .int .u8 0 :: .int .u8 0 :: .int .u8 0 :: .int .u8 0 :: [])) 26)
      have hz := blkN (W := w.alloc (.cells (bV d) 26)) (o := .cells (List.toArray (.int .u8 0 :: .int .u8 0 :: .int .u8 0 :: .int .u8 0 :: .int .u8 0 :: .int .u8 0 :: .int .u8 0 :: .int .u8 0 :: .int .u8 0 :: .int .u8 0 :: .int .u8 0 :: .int .u8 0 :: .int .u8 0 :: .int .u8 0 :: .int .u8 0 :: .int .u8 0 :: .int .u8 0 :: .int .u8 0 :: .int .u8 0 :: .int .u8 0 :: .int .u8 0 :: .int .u8 0 :: .int .u8 0 :: .int .u8 0 :: .int .u8 0 :: .int .u8 0 :: .int .u8 0 :: .int .u8 0 :: .int .u8 0 :: .int .u8 0 :: .int .u8 0 :: .int .u8 0 :: [])) 26) (k := w.heap.size + 1) (by simp)
      have hB : Below w.heap.size w ((w.alloc (.cells (bV d) 26)).alloc (.cells (List.toArray (.int .u8 0 :: .int .u8 0 :: .int .u8 0 :: .int .u8 0 :: .int .u8 0 :: .int .u8 0 :: .int .u8 0 :: .int .u8 0 :: .int .u8 0 :: .int .u8 0 :: .int .u8 0 :: .int .u8 0 :: .int .u8 0 :: .int .u8 0 :: .int .u8 0 :: .int .u8 0 :: .int .u8 0 :: .int .u8 0 :: .int .u8 0 :: .int .u8 0 :: .int .u8 0 :: .int .u8 0 :: .int .u8 0 :: .int .u8 0 :: .int .u8 0 :: .int .u8 0 :: .int .u8 0 :: .int .u8 0 :: .int .u8 0 :: .int .u8 0 :: .int .u8 0 :: .int .u8 0 :: [])) 26)) := ((Below.refl _ _).alloc (Nat.le_refl _) _).alloc (by simp) _
      have HD := Lib.hid (show _ ∧ _ ∧ _ from ⟨hb, hz, hB⟩)
      clear hb hz hB
      generalize (w.alloc (.cells (bV d) 26)).alloc (.cells (List.toArray (.int .u8 0 :: .int .u8 0 :: .int .u8 0 :: .int .u8 0 :: .int .u8 0 :: .int .u8 0 :: .int .u8 0 :: .int .u8 0 :: .int .u8 0 :: .int .u8 0 :: .int .u8 0 :: .int .u8 0 :: .int .u8 0 :: .int .u8 0 :: .int .u8 0 :: .int .u8 0 :: .int .u8 0 :: .int .u8 0 :: .int .u8 0 :: .int .u8 0 :: .int .u8 0 :: .int .u8 0 :: .int .u8 0 :: .int .u8 0 :: .int .u8 0 :: .int .u8 0 :: .int .u8 0 :: .int .u8 0 :: .int .u8 0 :: .int .u8 0 :: .int .u8 0 :: .int .u8 0 :: [])) 26) = W1 at *
      go_upto_region 2 with fail
      go_wp2_with (with_reducible refine held (o := ⟨none, _, _, _, _, _⟩) ?_)
      unfold Held
      rw [zL_val]
      refine wpList_store_row rfl _ (.tmp 8) (.tmp 33) rfl (w.heap.size + 1) (bV zL) rfl rfl 26 _ HD.out.2.1 (by kernel_rfl) (by rfl) (bV_one _) ?_
      have hD4 := setRow_heap W1 (w.heap.size + 1) _ (bV zL) 26 (0, 0) HD.out.2.1
      have hB6 := below_setRow HD.out.2.2 (show w.heap.size ≤ w.heap.size + 1 by omega) (bV zL)
      generalize W1.setRow (w.heap.size + 1) (bV zL) = W6 at *
      go_wp2
      refine bodyPost_ret (v := .tuple #[.agg (bV zL), .int .i64 1]) ?_ rfl ⟨.inr ⟨HO.out, rfl⟩, hB6⟩
      exact results_row_tmp Tryd.results23 _ _ (w.heap.size + 1) 26 (bV zL) (0, 0) rfl hD4 (by kernel_rfl) _ rfl
    have e0 : ¬ n < 1 := by omega
    by_cases c1 : n > 1099511627776
    · have e1 : (1099511627776 : Int) < n := by omega
      clear b
      go_enter Tryd.func23, Tryd.ntmps23
      go_upto_region 1 with fail
      have hb := blk_alloc (blk_new w (.cells (bV d) 26)) (.cells (List.toArray (.int .u8 0 :: .int .u8 0 :: .int .u8 0 :: .int .u8 0 :: .int .u8 0 :: .int .u8 0 :: .int .u8 0 :: .int .u8 0 :: .int .u8 0 :: .int .u8 0 :: .int .u8 0 :: .int .u8 0 :: .int .u8 0 :: .int .u8 0 :: .int .u8 0 :: .int .u8 0 :: .int .u8 0 :: .int .u8 0 :: .int .u8 0 :: .int .u8 0 :: .int .u8 0 :: .int .u8 0 :: .int .u8 0 :: .int .u8 0 :: .int .u8 0 :: .int .u8 0 :: .int .u8 0 :: .int .u8 0 :: .int .u8 0 :: .int .u8 0 :: .int .u8 0 :: .int .u8 0 :: [])) 26)
      have hz := blkN (W := w.alloc (.cells (bV d) 26)) (o := .cells (List.toArray (.int .u8 0 :: .int .u8 0 :: .int .u8 0 :: .int .u8 0 :: .int .u8 0 :: .int .u8 0 :: .int .u8 0 :: .int .u8 0 :: .int .u8 0 :: .int .u8 0 :: .int .u8 0 :: .int .u8 0 :: .int .u8 0 :: .int .u8 0 :: .int .u8 0 :: .int .u8 0 :: .int .u8 0 :: .int .u8 0 :: .int .u8 0 :: .int .u8 0 :: .int .u8 0 :: .int .u8 0 :: .int .u8 0 :: .int .u8 0 :: .int .u8 0 :: .int .u8 0 :: .int .u8 0 :: .int .u8 0 :: .int .u8 0 :: .int .u8 0 :: .int .u8 0 :: .int .u8 0 :: [])) 26) (k := w.heap.size + 1) (by simp)
      have hB : Below w.heap.size w ((w.alloc (.cells (bV d) 26)).alloc (.cells (List.toArray (.int .u8 0 :: .int .u8 0 :: .int .u8 0 :: .int .u8 0 :: .int .u8 0 :: .int .u8 0 :: .int .u8 0 :: .int .u8 0 :: .int .u8 0 :: .int .u8 0 :: .int .u8 0 :: .int .u8 0 :: .int .u8 0 :: .int .u8 0 :: .int .u8 0 :: .int .u8 0 :: .int .u8 0 :: .int .u8 0 :: .int .u8 0 :: .int .u8 0 :: .int .u8 0 :: .int .u8 0 :: .int .u8 0 :: .int .u8 0 :: .int .u8 0 :: .int .u8 0 :: .int .u8 0 :: .int .u8 0 :: .int .u8 0 :: .int .u8 0 :: .int .u8 0 :: .int .u8 0 :: [])) 26)) := ((Below.refl _ _).alloc (Nat.le_refl _) _).alloc (by simp) _
      have HD := Lib.hid (show _ ∧ _ ∧ _ from ⟨hb, hz, hB⟩)
      clear hb hz hB
      generalize (w.alloc (.cells (bV d) 26)).alloc (.cells (List.toArray (.int .u8 0 :: .int .u8 0 :: .int .u8 0 :: .int .u8 0 :: .int .u8 0 :: .int .u8 0 :: .int .u8 0 :: .int .u8 0 :: .int .u8 0 :: .int .u8 0 :: .int .u8 0 :: .int .u8 0 :: .int .u8 0 :: .int .u8 0 :: .int .u8 0 :: .int .u8 0 :: .int .u8 0 :: .int .u8 0 :: .int .u8 0 :: .int .u8 0 :: .int .u8 0 :: .int .u8 0 :: .int .u8 0 :: .int .u8 0 :: .int .u8 0 :: .int .u8 0 :: .int .u8 0 :: .int .u8 0 :: .int .u8 0 :: .int .u8 0 :: .int .u8 0 :: .int .u8 0 :: [])) 26) = W1 at *
      go_upto_region 2 with fail
      go_wp2_with (with_reducible refine held (o := ⟨none, _, _, _, _, _⟩) ?_)
      unfold Held
      rw [zL_val]
      refine wpList_store_row rfl _ (.tmp 8) (.tmp 33) rfl (w.heap.size + 1) (bV zL) rfl rfl 26 _ HD.out.2.1 (by kernel_rfl) (by rfl) (bV_one _) ?_
      have hD4 := setRow_heap W1 (w.heap.size + 1) _ (bV zL) 26 (0, 0) HD.out.2.1
      have hB6 := below_setRow HD.out.2.2 (show w.heap.size ≤ w.heap.size + 1 by omega) (bV zL)
      generalize W1.setRow (w.heap.size + 1) (bV zL) = W6 at *
      go_wp2
      refine bodyPost_ret (v := .tuple #[.agg (bV zL), .int .i64 1]) ?_ rfl ⟨.inr ⟨HO.out, rfl⟩, hB6⟩
      exact results_row_tmp Tryd.results23 _ _ (w.heap.size + 1) 26 (bV zL) (0, 0) rfl hD4 (by kernel_rfl) _ rfl
    have e1 : ¬ (1099511627776 : Int) < n := by omega
    by_cases c2 : i < 0
    · have e2 : i < 0 := by omega
      clear b
      go_enter Tryd.func23, Tryd.ntmps23
      go_upto_region 1 with fail
      have hb := blk_alloc (blk_new w (.cells (bV d) 26)) (.cells (List.toArray (.int .u8 0 :: .int .u8 0 :: .int .u8 0 :: .int .u8 0 :: .int .u8 0 :: .int .u8 0 :: .int .u8 0 :: .int .u8 0 :: .int .u8 0 :: .int .u8 0 :: .int .u8 0 :: .int .u8 0 :: .int .u8 0 :: .int .u8 0 :: .int .u8 0 :: .int .u8 0 :: .int .u8 0 :: .int .u8 0 :: .int .u8 0 :: .int .u8 0 :: .int .u8 0 :: .int .u8 0 :: .int .u8 0 :: .int .u8 0 :: .int .u8 0 :: .int .u8 0 :: .int .u8 0 :: .int .u8 0 :: .int .u8 0 :: .int .u8 0 :: .int .u8 0 :: .int .u8 0 :: [])) 26)
      have hz := blkN (W := w.alloc (.cells (bV d) 26)) (o := .cells (List.toArray (.int .u8 0 :: .int .u8 0 :: .int .u8 0 :: .int .u8 0 :: .int .u8 0 :: .int .u8 0 :: .int .u8 0 :: .int .u8 0 :: .int .u8 0 :: .int .u8 0 :: .int .u8 0 :: .int .u8 0 :: .int .u8 0 :: .int .u8 0 :: .int .u8 0 :: .int .u8 0 :: .int .u8 0 :: .int .u8 0 :: .int .u8 0 :: .int .u8 0 :: .int .u8 0 :: .int .u8 0 :: .int .u8 0 :: .int .u8 0 :: .int .u8 0 :: .int .u8 0 :: .int .u8 0 :: .int .u8 0 :: .int .u8 0 :: .int .u8 0 :: .int .u8 0 :: .int .u8 0 :: [])) 26) (k := w.heap.size + 1) (by simp)
      have hB : Below w.heap.size w ((w.alloc (.cells (bV d) 26)).alloc (.cells (List.toArray (.int .u8 0 :: .int .u8 0 :: .int .u8 0 :: .int .u8 0 :: .int .u8 0 :: .int .u8 0 :: .int .u8 0 :: .int .u8 0 :: .int .u8 0 :: .int .u8 0 :: .int .u8 0 :: .int .u8 0 :: .int .u8 0 :: .int .u8 0 :: .int .u8 0 :: .int .u8 0 :: .int .u8 0 :: .int .u8 0 :: .int .u8 0 :: .int .u8 0 :: .int .u8 0 :: .int .u8 0 :: .int .u8 0 :: .int .u8 0 :: .int .u8 0 :: .int .u8 0 :: .int .u8 0 :: .int .u8 0 :: .int .u8 0 :: .int .u8 0 :: .int .u8 0 :: .int .u8 0 :: [])) 26)) := ((Below.refl _ _).alloc (Nat.le_refl _) _).alloc (by simp) _
      have HD := Lib.hid (show _ ∧ _ ∧ _ from ⟨hb, hz, hB⟩)
      clear hb hz hB
      generalize (w.alloc (.cells (bV d) 26)).alloc (.cells (List.toArray (.int .u8 0 :: .int .u8 0 :: .int .u8 0 :: .int .u8 0 :: .int .u8 0 :: .int .u8 0 :: .int .u8 0 :: .int .u8 0 :: .int .u8 0 :: .int .u8 0 :: .int .u8 0 :: .int .u8 0 :: .int .u8 0 :: .int .u8 0 :: .int .u8 0 :: .int .u8 0 :: .int .u8 0 :: .int .u8 0 :: .int .u8 0 :: .int .u8 0 :: .int .u8 0 :: .int .u8 0 :: .int .u8 0 :: .int .u8 0 :: .int .u8 0 :: .int .u8 0 :: .int .u8 0 :: .int .u8 0 :: .int .u8 0 :: .int .u8 0 :: .int .u8 0 :: .int .u8 0 :: [])) 26) = W1 at *
      go_upto_region 2 with fail
      go_wp2_with (with_reducible refine held (o := ⟨none, _, _, _, _, _⟩) ?_)
      unfold Held
      rw [zL_val]
      refine wpList_store_row rfl _ (.tmp 8) (.tmp 33) rfl (w.heap.size + 1) (bV zL) rfl rfl 26 _ HD.out.2.1 (by kernel_rfl) (by rfl) (bV_one _) ?_
      have hD4 := setRow_heap W1 (w.heap.size + 1) _ (bV zL) 26 (0, 0) HD.out.2.1
      have hB6 := below_setRow HD.out.2.2 (show w.heap.size ≤ w.heap.size + 1 by omega) (bV zL)
      generalize W1.setRow (w.heap.size + 1) (bV zL) = W6 at *
      go_wp2
      refine bodyPost_ret (v := .tuple #[.agg (bV zL), .int .i64 1]) ?_ rfl ⟨.inr ⟨HO.out, rfl⟩, hB6⟩
      exact results_row_tmp Tryd.results23 _ _ (w.heap.size + 1) 26 (bV zL) (0, 0) rfl hD4 (by kernel_rfl) _ rfl
    have e2 : ¬ i < 0 := by omega
    by_cases c3 : i ≥ n
    · have e3 : n ≤ i := by omega
      clear b
      go_enter Tryd.func23, Tryd.ntmps23
      go_upto_region 1 with fail
      have hb := blk_alloc (blk_new w (.cells (bV d) 26)) (.cells (List.toArray (.int .u8 0 :: .int .u8 0 :: .int .u8 0 :: .int .u8 0 :: .int .u8 0 :: .int .u8 0 :: .int .u8 0 :: .int .u8 0 :: .int .u8 0 :: .int .u8 0 :: .int .u8 0 :: .int .u8 0 :: .int .u8 0 :: .int .u8 0 :: .int .u8 0 :: .int .u8 0 :: .int .u8 0 :: .int .u8 0 :: .int .u8 0 :: .int .u8 0 :: .int .u8 0 :: .int .u8 0 :: .int .u8 0 :: .int .u8 0 :: .int .u8 0 :: .int .u8 0 :: .int .u8 0 :: .int .u8 0 :: .int .u8 0 :: .int .u8 0 :: .int .u8 0 :: .int .u8 0 :: [])) 26)
      have hz := blkN (W := w.alloc (.cells (bV d) 26)) (o := .cells (List.toArray (.int .u8 0 :: .int .u8 0 :: .int .u8 0 :: .int .u8 0 :: .int .u8 0 :: .int .u8 0 :: .int .u8 0 :: .int .u8 0 :: .int .u8 0 :: .int .u8 0 :: .int .u8 0 :: .int .u8 0 :: .int .u8 0 :: .int .u8 0 :: .int .u8 0 :: .int .u8 0 :: .int .u8 0 :: .int .u8 0 :: .int .u8 0 :: .int .u8 0 :: .int .u8 0 :: .int .u8 0 :: .int .u8 0 :: .int .u8 0 :: .int .u8 0 :: .int .u8 0 :: .int .u8 0 :: .int .u8 0 :: .int .u8 0 :: .int .u8 0 :: .int .u8 0 :: .int .u8 0 :: [])) 26) (k := w.heap.size + 1) (by simp)
      have hB : Below w.heap.size w ((w.alloc (.cells (bV d) 26)).alloc (.cells (List.toArray (.int .u8 0 :: .int .u8 0 :: .int .u8 0 :: .int .u8 0 :: .int .u8 0 :: .int .u8 0 :: .int .u8 0 :: .int .u8 0 :: .int .u8 0 :: .int .u8 0 :: .int .u8 0 :: .int .u8 0 :: .int .u8 0 :: .int .u8 0 :: .int .u8 0 :: .int .u8 0 :: .int .u8 0 :: .int .u8 0 :: .int .u8 0 :: .int .u8 0 :: .int .u8 0 :: .int .u8 0 :: .int .u8 0 :: .int .u8 0 :: .int .u8 0 :: .int .u8 0 :: .int .u8 0 :: .int .u8 0 :: .int .u8 0 :: .int .u8 0 :: .int .u8 0 :: .int .u8 0 :: [])) 26)) := ((Below.refl _ _).alloc (Nat.le_refl _) _).alloc (by simp) _
      have HD := Lib.hid (show _ ∧ _ ∧ _ from ⟨hb, hz, hB⟩)
      clear hb hz hB
      generalize (w.alloc (.cells (bV d) 26)).alloc (.cells (List.toArray (.int .u8 0 :: .int .u8 0 :: .int .u8 0 :: .int .u8 0 :: .int .u8 0 :: .int .u8 0 :: .int .u8 0 :: .int .u8 0 :: .int .u8 0 :: .int .u8 0 :: .int .u8 0 :: .int .u8 0 :: .int .u8 0 :: .int .u8 0 :: .int .u8 0 :: .int .u8 0 :: .int .u8 0 :: .int .u8 0 :: .int .u8 0 :: .int .u8 0 :: .int .u8 0 :: .int .u8 0 :: .int .u8 0 :: .int .u8 0 :: .int .u8 0 :: .int .u8 0 :: .int .u8 0 :: .int .u8 0 :: .int .u8 0 :: .int .u8 0 :: .int .u8 0 :: .int .u8 0 :: [])) 26) = W1 at *
      go_upto_region 2 with fail
      go_wp2_with (with_reducible refine held (o := ⟨none, _, _, _, _, _⟩) ?_)
      unfold Held
      rw [zL_val]
      refine wpList_store_row rfl _ (.tmp 8) (.tmp 33) rfl (w.heap.size + 1) (bV zL) rfl rfl 26 _ HD.out.2.1 (by kernel_rfl) (by rfl) (bV_one _) ?_
      have hD4 := setRow_heap W1 (w.heap.size + 1) _ (bV zL) 26 (0, 0) HD.out.2.1
      have hB6 := below_setRow HD.out.2.2 (show w.heap.size ≤ w.heap.size + 1 by omega) (bV zL)
      generalize W1.setRow (w.heap.size + 1) (bV zL) = W6 at *
      go_wp2
      refine bodyPost_ret (v := .tuple #[.agg (bV zL), .int .i64 1]) ?_ rfl ⟨.inr ⟨HO.out, rfl⟩, hB6⟩
      exact results_row_tmp Tryd.results23 _ _ (w.heap.size + 1) 26 (bV zL) (0, 0) rfl hD4 (by kernel_rfl) _ rfl
    have e3 : ¬ n ≤ i := by omega
    rcases b with b | ⟨j, k, rfl, rfl, hjk, hk, hs⟩
    · omega
    · have f1 : ((m : Int) != (stepsN j k : Int)) = true := by simp; omega
      have cs := fun W => length_any k hk j W hjk
      clear hs
      generalize stepsN j k = S at *
      go_enter Tryd.func23, Tryd.ntmps23
      go_upto_region 1 with fail
      have hb := blk_alloc (blk_new w (.cells (bV d) 26)) (.cells (List.toArray (.int .u8 0 :: .int .u8 0 :: .int .u8 0 :: .int .u8 0 :: .int .u8 0 :: .int .u8 0 :: .int .u8 0 :: .int .u8 0 :: .int .u8 0 :: .int .u8 0 :: .int .u8 0 :: .int .u8 0 :: .int .u8 0 :: .int .u8 0 :: .int .u8 0 :: .int .u8 0 :: .int .u8 0 :: .int .u8 0 :: .int .u8 0 :: .int .u8 0 :: .int .u8 0 :: .int .u8 0 :: .int .u8 0 :: .int .u8 0 :: .int .u8 0 :: .int .u8 0 :: .int .u8 0 :: .int .u8 0 :: .int .u8 0 :: .int .u8 0 :: .int .u8 0 :: .int .u8 0 :: [])) 26)
      have hz := blkN (W := w.alloc (.cells (bV d) 26)) (o := .cells (List.toArray (.int .u8 0 :: .int .u8 0 :: .int .u8 0 :: .int .u8 0 :: .int .u8 0 :: .int .u8 0 :: .int .u8 0 :: .int .u8 0 :: .int .u8 0 :: .int .u8 0 :: .int .u8 0 :: .int .u8 0 :: .int .u8 0 :: .int .u8 0 :: .int .u8 0 :: .int .u8 0 :: .int .u8 0 :: .int .u8 0 :: .int .u8 0 :: .int .u8 0 :: .int .u8 0 :: .int .u8 0 :: .int .u8 0 :: .int .u8 0 :: .int .u8 0 :: .int .u8 0 :: .int .u8 0 :: .int .u8 0 :: .int .u8 0 :: .int .u8 0 :: .int .u8 0 :: .int .u8 0 :: [])) 26) (k := w.heap.size + 1) (by simp)
      have hB : Below w.heap.size w ((w.alloc (.cells (bV d) 26)).alloc (.cells (List.toArray (.int .u8 0 :: .int .u8 0 :: .int .u8 0 :: .int .u8 0 :: .int .u8 0 :: .int .u8 0 :: .int .u8 0 :: .int .u8 0 :: .int .u8 0 :: .int .u8 0 :: .int .u8 0 :: .int .u8 0 :: .int .u8 0 :: .int .u8 0 :: .int .u8 0 :: .int .u8 0 :: .int .u8 0 :: .int .u8 0 :: .int .u8 0 :: .int .u8 0 :: .int .u8 0 :: .int .u8 0 :: .int .u8 0 :: .int .u8 0 :: .int .u8 0 :: .int .u8 0 :: .int .u8 0 :: .int .u8 0 :: .int .u8 0 :: .int .u8 0 :: .int .u8 0 :: .int .u8 0 :: [])) 26)) := ((Below.refl _ _).alloc (Nat.le_refl _) _).alloc (by simp) _
      have HD := Lib.hid (show _ ∧ _ ∧ _ from ⟨hb, hz, hB⟩)
      clear hb hz hB
      generalize (w.alloc (.cells (bV d) 26)).alloc (.cells (List.toArray (.int .u8 0 :: .int .u8 0 :: .int .u8 0 :: .int .u8 0 :: .int .u8 0 :: .int .u8 0 :: .int .u8 0 :: .int .u8 0 :: .int .u8 0 :: .int .u8 0 :: .int .u8 0 :: .int .u8 0 :: .int .u8 0 :: .int .u8 0 :: .int .u8 0 :: .int .u8 0 :: .int .u8 0 :: .int .u8 0 :: .int .u8 0 :: .int .u8 0 :: .int .u8 0 :: .int .u8 0 :: .int .u8 0 :: .int .u8 0 :: .int .u8 0 :: .int .u8 0 :: .int .u8 0 :: .int .u8 0 :: .int .u8 0 :: .int .u8 0 :: .int .u8 0 :: .int .u8 0 :: [])) 26) = W1 at *
      go_upto_region 2 with (go_at_call 41; refine (cs _).mono ?_; rintro e w' ⟨rfl, hw'⟩; subst w')
      go_wp2_with (with_reducible refine held (o := ⟨none, _, _, _, _, _⟩) ?_)
      unfold Held
      rw [zL_val]
      refine wpList_store_row rfl _ (.tmp 8) (.tmp 33) rfl (w.heap.size + 1) (bV zL) rfl rfl 26 _ HD.out.2.1 (by kernel_rfl) (by rfl) (bV_one _) ?_
      have hD4 := setRow_heap W1 (w.heap.size + 1) _ (bV zL) 26 (0, 0) HD.out.2.1
      have hB6 := below_setRow HD.out.2.2 (show w.heap.size ≤ w.heap.size + 1 by omega) (bV zL)
      generalize W1.setRow (w.heap.size + 1) (bV zL) = W6 at *
      go_wp2
      refine bodyPost_ret (v := .tuple #[.agg (bV zL), .int .i64 1]) ?_ rfl ⟨.inr ⟨HO.out, rfl⟩, hB6⟩
      exact results_row_tmp Tryd.results23 _ _ (w.heap.size + 1) 26 (bV zL) (0, 0) rfl hD4 (by kernel_rfl) _ rfl

end Go.Proofs.YthbjjfblapfjdaaDoor
