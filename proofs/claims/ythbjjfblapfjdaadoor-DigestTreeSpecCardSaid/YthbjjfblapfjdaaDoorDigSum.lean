/- digest.Sum (layer 2). -/
import Derived.Test.YthbjjfblapfjdaaDoorDigSumL
namespace Go.Proofs.YthbjjfblapfjdaaDoor
open Go.ChangeShapes Go.WideShapes Go.ChangeAt Go.RowKit

set_option maxRecDepth 100000 in
set_option maxHeartbeats 4000000 in
theorem sum_any (a : Option Addr) (b off n cap : Nat) (l : List Int) (w : World) (hK : Keys w) (hR : RowB w a b off n l) (hlc : n ≤ cap) (hn : n ≤ 900000) :
    Calls Tryd.prog 12 #[.slice a n cap] w fun e w' => e = .returned (.agg (dgV (sumS l))) ∧ Below w.heap.size w w' := by
  have hl := hR.len
  have HR := Lib.hid (show _ ∧ _ from ⟨hR, hK⟩)
  clear hR hK
  go_enter Tryd.func12, Tryd.ntmps12
  go_wp2_with fail
  have hd0 := blk_alloc (blk_new w (.cells (List.toArray (.int .u8 0 :: .int .u8 0 :: .int .u8 0 :: .int .u8 0 :: .int .u8 0 :: .int .u8 0 :: .int .u8 0 :: .int .u8 0 :: .int .u8 0 :: .int .u8 0 :: .int .u8 0 :: .int .u8 0 :: .int .u8 0 :: .int .u8 0 :: .int .u8 0 :: .int .u8 0 :: .int .u8 0 :: .int .u8 0 :: .int .u8 0 :: .int .u8 0 :: .int .u8 0 :: .int .u8 0 :: .int .u8 0 :: .int .u8 0 :: .int .u8 0 :: .int .u8 0 :: .int .u8 0 :: .int .u8 0 :: .int .u8 0 :: .int .u8 0 :: .int .u8 0 :: .int .u8 0 :: [])) 26)) (.cells (stV hI) 52)
  have hs0 := blkN (W := w.alloc (.cells (List.toArray (.int .u8 0 :: .int .u8 0 :: .int .u8 0 :: .int .u8 0 :: .int .u8 0 :: .int .u8 0 :: .int .u8 0 :: .int .u8 0 :: .int .u8 0 :: .int .u8 0 :: .int .u8 0 :: .int .u8 0 :: .int .u8 0 :: .int .u8 0 :: .int .u8 0 :: .int .u8 0 :: .int .u8 0 :: .int .u8 0 :: .int .u8 0 :: .int .u8 0 :: .int .u8 0 :: .int .u8 0 :: .int .u8 0 :: .int .u8 0 :: .int .u8 0 :: .int .u8 0 :: .int .u8 0 :: .int .u8 0 :: .int .u8 0 :: .int .u8 0 :: .int .u8 0 :: .int .u8 0 :: [])) 26)) (o := .cells (stV hI) 52) (k := w.heap.size + 1) (by simp)
  have hB0 : Below w.heap.size w ((w.alloc (.cells (List.toArray (.int .u8 0 :: .int .u8 0 :: .int .u8 0 :: .int .u8 0 :: .int .u8 0 :: .int .u8 0 :: .int .u8 0 :: .int .u8 0 :: .int .u8 0 :: .int .u8 0 :: .int .u8 0 :: .int .u8 0 :: .int .u8 0 :: .int .u8 0 :: .int .u8 0 :: .int .u8 0 :: .int .u8 0 :: .int .u8 0 :: .int .u8 0 :: .int .u8 0 :: .int .u8 0 :: .int .u8 0 :: .int .u8 0 :: .int .u8 0 :: .int .u8 0 :: .int .u8 0 :: .int .u8 0 :: .int .u8 0 :: .int .u8 0 :: .int .u8 0 :: .int .u8 0 :: .int .u8 0 :: [])) 26)).alloc (.cells (stV hI) 52)) := ((Below.refl _ _).alloc (Nat.le_refl _) _).alloc (by simp) _
  have HO := Lib.hid (show _ ∧ _ ∧ _ from ⟨hd0, hs0, hB0⟩)
  clear hd0 hs0 hB0
  go_loopw [5] (fun v wr => ∃ (k : Nat) (a' : Option Addr), 64 * k ≤ n ∧ v = .slice a' (n - 64 * k) (cap - 64 * k) ∧ (0 < n - 64 * k → a' = some ⟨b, off + 64 * k, none⟩) ∧ wr.heap[w.heap.size + 1]? = some (.cells (stV (sumK (padL l) k)) 52 (0, 0)) ∧ wr.heap[w.heap.size]? = some (.cells (List.toArray (.int .u8 0 :: .int .u8 0 :: .int .u8 0 :: .int .u8 0 :: .int .u8 0 :: .int .u8 0 :: .int .u8 0 :: .int .u8 0 :: .int .u8 0 :: .int .u8 0 :: .int .u8 0 :: .int .u8 0 :: .int .u8 0 :: .int .u8 0 :: .int .u8 0 :: .int .u8 0 :: .int .u8 0 :: .int .u8 0 :: .int .u8 0 :: .int .u8 0 :: .int .u8 0 :: .int .u8 0 :: .int .u8 0 :: .int .u8 0 :: .int .u8 0 :: .int .u8 0 :: .int .u8 0 :: .int .u8 0 :: .int .u8 0 :: .int .u8 0 :: .int .u8 0 :: .int .u8 0 :: [])) 26 (0, 0)) ∧ Below w.heap.size w wr) (fun v _ => lenB v)
  case atStart => exact ⟨0, a, by omega, by simp, fun h0 => HR.out.1.adr (by omega), HO.out.2.1, HO.out.1, HO.out.2.2⟩
  case round =>
    obtain ⟨k, a', hk, rfl, ha, hS, hD, hB⟩ := hrel
    obtain ⟨m, hm⟩ : ∃ m, m = n - 64 * k := ⟨_, rfl⟩
    obtain ⟨c, hc⟩ : ∃ c, c = cap - 64 * k := ⟨_, rfl⟩
    rw [← hm] at ha ⊢
    rw [← hc]
    have hmc : m ≤ c := by omega
    have hsz := (Array.getElem?_eq_some_iff.1 hS).1
    by_cases hlt : 64 ≤ m
    · obtain rfl := ha (by omega)
      have hbl := (blk_low (HR.out.1.below hB (Nat.le_refl _)) (k := k) (by omega))
      have hkw := HR.out.2.below hB
      have i1 : (64 : Int) ≤ (m : Int) := by omega
      have i2 : (64 : Int) ≤ (c : Int) := by omega
      obtain ⟨s, hs⟩ : ∃ s, s = sumK (padL l) k := ⟨_, rfl⟩
      rw [← hs] at hS
      have HZ := Lib.hid (show _ ∧ _ ∧ _ ∧ _ ∧ _ ∧ _ ∧ _ ∧ _ from ⟨hS, hD, hB, hbl, hkw, hm, hc, hs⟩)
      clear hS hD hB hbl hkw hm hc ha hs
      obtain ⟨s0, s1, s2, s3, s4, s5, s6, s7⟩ := s
      go_wp2_with (first | (go_at_call 27; refine (abs_raw (w.heap.size + 1) b (off + 64 * k) c (blkL (padL l) k) s0 s1 s2 s3 s4 s5 s6 s7 _ HZ.out.2.2.2.2.1 HZ.out.2.2.2.1 HZ.out.1).mono ?_; rintro e w1 ⟨rfl, h1, hU⟩) | (with_reducible refine held (o := ⟨none, _, _, _, _, _⟩) ?_))
      have hD2 := (hU.far w.heap.size (by have := HZ.out.2.2.1.size; omega) (by omega)).trans HZ.out.2.1
      have hB2 := below_trans' HZ.out.2.2.1 (hU.low w.heap.size (by omega) HZ.out.2.2.1.size)
      have hk1 : sumK (padL l) (k + 1) = add8 (s0, s1, s2, s3, s4, s5, s6, s7) (stK (blkL (padL l) k) (s0, s1, s2, s3, s4, s5, s6, s7) 64) := by
        show add8 (sumK (padL l) k) _ = _
        rw [← HZ.out.2.2.2.2.2.2.2]
      rw [← hk1] at h1
      have hm := HZ.out.2.2.2.2.2.1
      have hc := HZ.out.2.2.2.2.2.2.1
      by_cases h64 : c = 64
      · rw [if_pos h64]
        exact ⟨⟨k + 1, _, by omega, by congr 1 <;> omega, fun h0 => by omega, h1, hD2, hB2⟩, by simp [lenB]; omega⟩
      · rw [if_neg h64]
        exact ⟨⟨k + 1, _, by omega, by congr 1 <;> omega, fun _ => by rw [show off + 64 * (k + 1) = off + 64 * k + 64 by omega], h1, hD2, hB2⟩, by simp [lenB]; omega⟩
    · have nm : ¬ (64 : Int) ≤ (m : Int) := by omega
      have HZ := Lib.hid (show _ ∧ _ ∧ _ ∧ _ ∧ _ ∧ _ from ⟨hS, hD, hB, hm, hc, ha⟩)
      clear hS hD hB hm hc ha
      generalize wr = W0 at *
      go_wp2_with fail
      have hm := HZ.out.2.2.2.1
      have hr : RowB W0 a' b (off + 64 * k) m (l.drop (64 * k)) := (HR.out.1.below HZ.out.2.2.1 (Nat.le_refl _)).rest (by omega) (by omega) HZ.out.2.2.2.2.2
      refine (padding_any a' b (off + 64 * k) m c n (l.drop (64 * k)) W0 hr (by omega) (by omega)).mono ?_
      rintro e W1 ⟨v, rfl, hO, hb1⟩
      rw [show padE (l.drop (64 * k)) n = (padL l).drop (64 * k) by rw [← hl]; exact padL_end l (by omega)] at hO
      obtain ⟨J, hJ⟩ : ∃ J, ((padL l).drop (64 * k)).length = 64 * J := ⟨((padL l).drop (64 * k)).length / 64, by have := padL_mod l; rw [List.length_drop]; omega⟩
      have hJ1 : 64 * k + 64 * J = (padL l).length := by rw [List.length_drop] at hJ; have := padL_len l; omega
      have hKs : sumS l = sumK (padL l) (k + J) := by unfold sumS; congr 1; omega
      have hJ9 : 64 * J ≤ 1000000 := by have := padL_len l; unfold zN at this; omega
      have hs1 := blk_below HZ.out.1 hb1 hsz
      have hd1 := blk_below HZ.out.2.1 hb1 (by omega)
      have hB1 := below_after HZ.out.2.2.1 hb1 HZ.out.2.2.1.size
      have hz1 := hb1.size
      have hJp : 0 < 64 * J := by have := padL_len l; omega
      obtain ⟨bp, cp0, hvg, hgB⟩ := hO.inBlock hJ hJp
      obtain ⟨ap, bp', cp, hv, hP, hcp, hcm2⟩ := hO.row
      rw [hJ] at hv hP hcp
      have hap := hP.adr hJp
      have hbb : bp' = bp := by
        rw [hv, hap] at hvg
        injection hvg with e1
        injection e1 with e1
        injection e1 with e1
      subst hbb
      subst hv
      subst hap
      have HP := Lib.hid (show _ ∧ _ ∧ _ ∧ _ ∧ _ from ⟨hs1, hd1, hP, hB1, hKs⟩)
      clear hs1 hd1 hP hB1 hKs hO hvg hr hm hb1 HZ
      go_wp2_with fail
      go_loopw [6] (fun v wr => ∃ (j : Nat) (ae : Option Addr), j ≤ J ∧ v = .slice ae (64 * J - 64 * j) (cp - 64 * j) ∧ (0 < 64 * J - 64 * j → ae = some ⟨bp', 64 * j, none⟩) ∧ wr.heap[w.heap.size + 1]? = some (.cells (stV (sumK (padL l) (k + j))) 52 (0, 0)) ∧ wr.heap[w.heap.size]? = some (.cells (List.toArray (.int .u8 0 :: .int .u8 0 :: .int .u8 0 :: .int .u8 0 :: .int .u8 0 :: .int .u8 0 :: .int .u8 0 :: .int .u8 0 :: .int .u8 0 :: .int .u8 0 :: .int .u8 0 :: .int .u8 0 :: .int .u8 0 :: .int .u8 0 :: .int .u8 0 :: .int .u8 0 :: .int .u8 0 :: .int .u8 0 :: .int .u8 0 :: .int .u8 0 :: .int .u8 0 :: .int .u8 0 :: .int .u8 0 :: .int .u8 0 :: .int .u8 0 :: .int .u8 0 :: .int .u8 0 :: .int .u8 0 :: .int .u8 0 :: .int .u8 0 :: .int .u8 0 :: .int .u8 0 :: [])) 26 (0, 0)) ∧ RowB wr (some ⟨bp', 0, none⟩) bp' 0 (64 * J) ((padL l).drop (64 * k)) ∧ Below w.heap.size w wr) (fun v _ => lenB v)
      case atStart => exact ⟨0, _, by omega, rfl, fun _ => rfl, HP.out.1, HP.out.2.1, HP.out.2.2.1, HP.out.2.2.2.1⟩
      case round =>
        obtain ⟨j, ae, hj, rfl, hae, hS, hD, hR, hB⟩ := hrel
        obtain ⟨p, hp⟩ : ∃ p, p = 64 * J - 64 * j := ⟨_, rfl⟩
        obtain ⟨q, hq⟩ : ∃ q, q = cp - 64 * j := ⟨_, rfl⟩
        rw [← hp] at hae ⊢
        rw [← hq]
        have hpq : p ≤ q := by omega
        have hsz := (Array.getElem?_eq_some_iff.1 hS).1
        by_cases hlt : j < J
        · obtain rfl := hae (by omega)
          have hbl := blk_of hR (k := j) (by omega)
          rw [blkL_drop, Nat.zero_add] at hbl
          have hkw := HR.out.2.below hB
          have i0 : (0 : Int) < (p : Int) := by omega
          have i1 : (64 : Int) ≤ (p : Int) := by omega
          have i2 : (64 : Int) ≤ (q : Int) := by omega
          obtain ⟨s, hs⟩ : ∃ s, s = sumK (padL l) (k + j) := ⟨_, rfl⟩
          rw [← hs] at hS
          have HZ := Lib.hid (show _ ∧ _ ∧ _ ∧ _ ∧ _ ∧ _ ∧ _ ∧ _ ∧ _ from ⟨hS, hD, hB, hbl, hkw, hp, hq, hs, hR⟩)
          clear hS hD hB hbl hkw hp hq hae hs hR
          obtain ⟨s0, s1, s2, s3, s4, s5, s6, s7⟩ := s
          go_wp2_with (first | (go_at_call 27; refine (abs_raw (w.heap.size + 1) bp' (64 * j) q (blkL (padL l) (k + j)) s0 s1 s2 s3 s4 s5 s6 s7 _ HZ.out.2.2.2.2.1 HZ.out.2.2.2.1 HZ.out.1).mono ?_; rintro e w1 ⟨rfl, h1, hU⟩) | (with_reducible refine held (o := ⟨none, _, _, _, _, _⟩) ?_))
          have hD2 := (hU.far w.heap.size (by have := HZ.out.2.2.1.size; omega) (by omega)).trans HZ.out.2.1
          have hR2 := HZ.out.2.2.2.2.2.2.2.2.far (hU.far bp' (HZ.out.2.2.2.2.2.2.2.2.old hJp) (by omega)) hU.size
          have hB2 := below_trans' HZ.out.2.2.1 (hU.low w.heap.size (by omega) HZ.out.2.2.1.size)
          have hk1 : sumK (padL l) (k + (j + 1)) = add8 (s0, s1, s2, s3, s4, s5, s6, s7) (stK (blkL (padL l) (k + j)) (s0, s1, s2, s3, s4, s5, s6, s7) 64) := by
            show add8 (sumK (padL l) (k + j)) (stK (blkL (padL l) (k + j)) (sumK (padL l) (k + j)) 64) = _
            rw [← HZ.out.2.2.2.2.2.2.2.1]
          rw [← hk1] at h1
          have hp := HZ.out.2.2.2.2.2.1
          have hq := HZ.out.2.2.2.2.2.2.1
          by_cases h64 : q = 64
          · rw [if_pos h64]
            exact ⟨⟨j + 1, _, by omega, by congr 1 <;> omega, fun h0 => by omega, h1, hD2, hR2, hB2⟩, by simp [lenB]; omega⟩
          · rw [if_neg h64]
            exact ⟨⟨j + 1, _, by omega, by congr 1 <;> omega, fun _ => by rw [show 64 * (j + 1) = 64 * j + 64 by omega], h1, hD2, hR2, hB2⟩, by simp [lenB]; omega⟩
        · obtain rfl : j = J := by omega
          have n0 : ¬ (0 : Int) < (p : Int) := by omega
          rw [← HP.out.2.2.2.2] at hS
          have HZ := Lib.hid (show _ ∧ _ ∧ _ from ⟨hS, hD, hB⟩)
          clear hS hD hB hR hp hq hae
          go_wp2_with fail
          refine (bytes_any (w.heap.size + 1) (sumS l) _ HZ.out.1).mono ?_
          rintro e W3 ⟨rfl, hb3⟩
          have hD3 := blk_below HZ.out.2.1 hb3 (by omega)
          have hB3 := below_after HZ.out.2.2 hb3 HZ.out.2.2.size
          go_wp2_with (with_reducible refine held (o := ⟨none, _, _, _, _, _⟩) ?_)
          unfold Held
          refine wpList_store_row rfl _ (.tmp 2) (.tmp 35) rfl w.heap.size (dgV (sumS l)) rfl rfl 26 _ hD3 (by rw [dgV_size]; kernel_rfl) (by rw [dgV_size]; rfl) (dgV_one _) ?_
          have hD4 := setRow_heap W3 w.heap.size _ (dgV (sumS l)) 26 (0, 0) hD3
          have hB4 := below_setRow hB3 (Nat.le_refl _) (dgV (sumS l))
          generalize W3.setRow w.heap.size (dgV (sumS l)) = W5 at *
          go_wp2
          refine bodyPost_ret (v := .agg (dgV (sumS l))) ?_ rfl ⟨rfl, hB4⟩
          exact results_cell_row Tryd.results12 _ _ w.heap.size 26 (dgV (sumS l)) (0, 0) _ rfl hD4 Tryd.underlying26 rfl (by rw [dgV_size]; kernel_rfl)
end Go.Proofs.YthbjjfblapfjdaaDoor
