/- DigestPlaces (layer 2). -/
import Derived.Test.YthbjjfblapfjdaaDoorDigThree
namespace Go.Proofs.YthbjjfblapfjdaaDoor
open Go.ChangeShapes Go.WideShapes Go.ChangeAt Go.RowKit
theorem DigR.elem0 {w : World} {a : Option Addr} {b n : Nat} {l : List (List Int)} {D : List Int} (h : DigR w a b 0 n l) {i : Nat} (hi : i < n) (hD : D = l.getD i []) : w.rangeAt b (i * 32) (D.map (Value.int .u8)) := by
  have := (h.elem hi).range
  rw [hD]
  rwa [Nat.zero_add] at this
set_option maxRecDepth 100000 in
set_option maxHeartbeats 40000000 in
theorem places_walk (a : Option Addr) (b off n cap : Nat) (l : List Int) (A N : Int) (w : World) (hK : Keys w) (hR : RowB w a b off n l) (hn : n ≤ 9223372036854775807) :
    Calls Tryd.prog 9 #[.slice a n cap, .int .i64 A, .int .i64 N] w fun e w' => e = .returned (.bool true) ∧ Below w.heap.size w w' := by
  have HR := Lib.hid (show _ ∧ _ from ⟨hR, hK⟩)
  clear hR hK
  go_enter Tryd.func9, Tryd.ntmps9
  go_wp2_with (go_at_call 11; refine (sane_any _ HR.out.2).mono ?_; rintro e WS ⟨rfl, hbS⟩)
  go_wp2_with fail
  refine (of_any a b off n cap l _ (HR.out.1.below hbS (Nat.le_refl _)) hn).mono ?_
  rintro e W0 ⟨v, rfl, hO, hb0⟩
  obtain ⟨la, lb, lcap, rfl, hDg, hlnc, hlc, hlm, _⟩ := hO.s
  have hbw := hbS.trans (hb0.mono hbS.size)
  obtain ⟨m, hm⟩ : ∃ m, m = min n 24 := ⟨_, rfl⟩
  rw [← hm] at hDg hlc ⊢
  obtain ⟨L, hL⟩ : ∃ L, L = ofL l m := ⟨_, rfl⟩
  rw [← hL] at hDg hlc ⊢
  have hLl : L.length = m := by rw [hL, ofL_len]
  rw [hLl] at hDg hlc ⊢
  have HW := Lib.hid (show _ ∧ Below w.heap.size w W0 ∧ Keys W0 from ⟨hDg, hbw, HR.out.2.below hbw⟩)
  have hm24 : m ≤ 24 := by omega
  clear hDg hbw hb0 hbS hL hO hm HR
  unfold maxLen at hlm
  have HL := Lib.hid hLl
  clear hLl
  go_wp2_with fail
  refine (path_any la lb 0 m lcap L A W0 HW.out.1 (by omega) hlc HW.out.2.2).mono ?_
  rintro e W1 ⟨hP, hb1⟩
  have HB1 := Lib.hid (show Below w.heap.size w W1 from HW.out.2.1.trans (hb1.mono HW.out.2.1.size))
  rcases hP with ⟨i, rfl, him, v, rfl, hO⟩ | ⟨hbad, rfl⟩
  · obtain ⟨pa, pb, pcap, rfl, hP, hpnc, hplc, hpm, _⟩ := hO.s
    have hpl := pathL_len m i L HL.out (by omega)
    obtain ⟨P, hPe⟩ : ∃ P, P = pathL L i := ⟨_, rfl⟩
    rw [← hPe] at hP hplc hpl ⊢
    obtain ⟨pl, hple⟩ : ∃ pl, pl = P.length := ⟨_, rfl⟩
    rw [← hple] at hP hplc hpl ⊢
    obtain rfl := HW.out.1.adr (by omega)
    obtain ⟨D, hDe⟩ : ∃ D, D = L.getD i [] := ⟨_, rfl⟩
    have hD : D.length = 32 := by rw [hDe]; exact HW.out.1.dig i him
    have HDe := Lib.hid hDe
    have HS := Lib.hid hpl
    have hst := stepsN_lt m i (by omega)
    have hpl24 : pl < 24 := by omega
    have i1 : ¬ (i : Int) < 0 := by omega
    have i2 : ¬ (m : Int) ≤ (i : Int) := by omega
    have i3 : (i : Int) < (m : Int) := by omega
    have u1 : IntKind.i64.wrap ((m : Int) + 1) = ((m + 1 : Nat) : Int) := (wrap_id (by omega)).trans (by omega)
    have u2 : IntKind.i64.wrap (2 * (m : Int)) = ((2 * m : Nat) : Int) := (wrap_id (by omega)).trans (by omega)
    have HE0 := Lib.hid (show DigR W1 _ lb 0 m L ∧ DigR W1 pa pb 0 pl P ∧ Keys W1 from ⟨HW.out.1.below hb1 (Nat.le_refl _), hP, HW.out.2.2.below hb1⟩)
    have cs := fun W => lsteps_any i m him (by omega) W
    rw [← hpl] at cs
    clear hDe hpl hst hb1 HW hP hO hPe hple
    go_upto_region 9 with (go_at_call 24; refine (cs _).mono ?_; rintro e w' ⟨rfl, hw'⟩; subst w')
    go_upto_region 10 with fail
    have hcell : ∀ t, t < 4 → ∃ M : Int, (W1.alloc (.cells #[.int .i64 N, .int .i64 (bits .and .i64 N 31), .int .i64 ((m : Int) + 1), .int .i64 (2 * (m : Int))] 3)).cell? ⟨W1.heap.size, t, none⟩ = some (.int .i64 M) := fun t ht => by
      have hb := blk_new W1 (.cells #[.int .i64 N, .int .i64 (bits .and .i64 N 31), .int .i64 ((m : Int) + 1), .int .i64 (2 * (m : Int))] 3)
      rcases (by omega : t = 0 ∨ t = 1 ∨ t = 2 ∨ t = 3) with rfl | rfl | rfl | rfl
      · exact ⟨_, blk_cell hb 0⟩
      · exact ⟨_, blk_cell hb 1⟩
      · exact ⟨_, blk_cell hb 2⟩
      · exact ⟨_, blk_cell hb 3⟩
    have hba := (Below.refl W1.heap.size W1).alloc (Nat.le_refl _) (.cells #[.int .i64 N, .int .i64 (bits .and .i64 N 31), .int .i64 ((m : Int) + 1), .int .i64 (2 * (m : Int))] 3)
    have hql : W1.heap.size < (W1.alloc (.cells #[.int .i64 N, .int .i64 (bits .and .i64 N 31), .int .i64 ((m : Int) + 1), .int .i64 (2 * (m : Int))] 3)).heap.size := by simp
    have HE := Lib.hid (show Below w.heap.size w _ ∧ DigR _ _ lb 0 m L ∧ DigR _ pa pb 0 pl P ∧ Keys _ from ⟨HB1.out.trans (hba.mono HB1.out.size), HE0.out.1.below hba (Nat.le_refl _), HE0.out.2.1.below hba (Nat.le_refl _), HE0.out.2.2.below hba⟩)
    have HCE := Lib.hid hcell
    clear hcell hba HE0 HB1
    generalize W1.alloc (.cells #[.int .i64 N, .int .i64 (bits .and .i64 N 31), .int .i64 ((m : Int) + 1), .int .i64 (2 * (m : Int))] 3) = W2 at *
    generalize W1.heap.size = q at *
    go_loopw [62] (fun v wr => ∃ t : Nat, t ≤ 4 ∧ v = .int .i64 t ∧ Below W2.heap.size W2 wr) (fun v _ => 4 - (intOf v).toNat)
    case atStart => exact ⟨0, Nat.zero_le _, rfl, Below.refl _ _⟩
    case round =>
      obtain ⟨t, ht, rfl, hB⟩ := hrel
      by_cases ht4 : t < 4
      · obtain ⟨M, hc⟩ := HCE.out t ht4
        have k1 : (t : Int) < 4 := by omega
        have k2 : ¬ (t : Int) < 0 := by omega
        have u5 : IntKind.i64.wrap ((t : Int) + 1) = ((t + 1 : Nat) : Int) := (wrap_id (by omega)).trans (by omega)
        have hc' := (hB.cell (p := ⟨q, t, none⟩) hql).trans hc
        have HX := Lib.hid hB
        clear hB hc
        by_cases c1 : (i : Int) < M
        · by_cases c2 : M ≤ 1099511627776
          · obtain ⟨kk, rfl⟩ := Int.eq_ofNat_of_zero_le (a := M) (by omega)
            by_cases c3 : stepsN i kk = pl
            · have HOK := Lib.hid (show ClimbOk (i : Int) (kk : Int) pl from ⟨i, kk, rfl, rfl, by omega, by omega, c3⟩)
              have cs := fun W => lsteps_any i kk (by omega) (by omega) W
              rw [c3] at cs
              clear c3
              go_wp2_with (first | (go_at_call 24; refine (cs _).mono ?_; rintro e w' ⟨rfl, hw'⟩; subst w') | (with_reducible refine held (o := ⟨some 85, _, _, _, _, _⟩) ?_))
              unfold Held
              refine wpList_load_mid rfl 26 (.tmp 84) rfl lb (i * 32) (by kernel_rfl) _ _ ((HE.out.2.1.below HX.out (Nat.le_refl _)).elem0 him HDe.out) Tryd.underlying26 rfl (by rw [List.length_map, hD]; kernel_rfl) ?_
              rw [show (D.map (Value.int .u8)).toArray = bV D from rfl]
              go_wp2_with fail
              refine (climbE_any D hD (i : Int) (kk : Int) pa pb 0 pl pcap P wr (HE.out.2.2.1.below HX.out (Nat.le_refl _)) hplc (HE.out.2.2.2.below HX.out)).mono ?_
              rintro e V1 ⟨hC, hv1⟩
              have hC : e = .returned (.tuple #[.agg (bV (dgL (climbS D i kk P))), .int .i64 0]) := by
                rcases hC with ⟨j', k', e1, e2, _, _, _, h⟩ | ⟨h, _⟩
                · obtain rfl : j' = i := by omega
                  obtain rfl : k' = kk := by omega
                  exact h
                · exact absurd HOK.out h
              subst hC
              have HX1 := Lib.hid (show Below W2.heap.size W2 V1 from below_after HX.out hv1 HX.out.size)
              clear hv1
              go_wp2_with (with_reducible refine held (o := ⟨none, _, _, _, _, _⟩) ?_)
              unfold Held
              refine wpList_store_row rfl 26 (.tmp 13) (.tmp 90) (by kernel_rfl) V1.heap.size (bV (dgL (climbS D i kk P))) (by kernel_rfl) (by kernel_rfl) 26 _ (blk_new V1 _) (by rw [bV_size, dgL_len]; kernel_rfl) (by rw [bV_size, dgL_len]; rfl) (bV_one _) ?_
              rw [World.setRow_alloc_new]
              have HX2 := Lib.hid (show Below W2.heap.size W2 (V1.alloc (.cells (bV (dgL (climbS D i kk P))) 26)) from HX1.out.alloc HX1.out.size _)
              generalize V1.alloc (.cells (bV (dgL (climbS D i kk P))) 26) = V2 at *
              go_simp
              go_wp2_with fail
              go_roundw
              case rel => exact ⟨t + 1, ht4, by go_num, HX2.out⟩
              case measure => simp [intOf]; omega
            · have HOK := Lib.hid (show ¬ ClimbOk (i : Int) (kk : Int) pl from fun ⟨j', k', e1, e2, h3, h4, h5⟩ => by
                obtain rfl : j' = i := by omega
                obtain rfl : k' = kk := by omega
                exact c3 h5)
              have cs := fun W => lsteps_any i kk (by omega) (by omega) W
              have f1 : ((stepsN i kk : Int) == (pl : Int)) = false := by simp; omega
              clear c3
              generalize stepsN i kk = SS at *
              go_wp2_with (first | (go_at_call 24; refine (cs _).mono ?_; rintro e w' ⟨rfl, hw'⟩; subst w') | (with_reducible refine held (o := ⟨some 85, _, _, _, _, _⟩) ?_))
              unfold Held
              refine wpList_load_mid rfl 26 (.tmp 84) rfl lb (i * 32) (by kernel_rfl) _ _ ((HE.out.2.1.below HX.out (Nat.le_refl _)).elem0 him HDe.out) Tryd.underlying26 rfl (by rw [List.length_map, hD]; kernel_rfl) ?_
              rw [show (D.map (Value.int .u8)).toArray = bV D from rfl]
              go_wp2_with fail
              refine (climbE_any D hD (i : Int) (kk : Int) pa pb 0 pl pcap P wr (HE.out.2.2.1.below HX.out (Nat.le_refl _)) hplc (HE.out.2.2.2.below HX.out)).mono ?_
              rintro e V1 ⟨hC, hv1⟩
              have hC : e = .returned (.tuple #[.agg (bV zL), .int .i64 1]) := by
                rcases hC with ⟨j', k', e1, e2, h3, h4, h5, _⟩ | ⟨_, h⟩
                · exact absurd ⟨j', k', e1, e2, h3, h4, h5⟩ HOK.out
                · exact h
              subst hC
              have HX1 := Lib.hid (show Below W2.heap.size W2 V1 from below_after HX.out hv1 HX.out.size)
              clear hv1
              go_wp2_with (with_reducible refine held (o := ⟨none, _, _, _, _, _⟩) ?_)
              unfold Held
              refine wpList_store_row rfl 26 (.tmp 13) (.tmp 90) (by kernel_rfl) V1.heap.size (bV zL) (by kernel_rfl) (by kernel_rfl) 26 _ (blk_new V1 _) (by kernel_rfl) (by kernel_rfl) (bV_one _) ?_
              rw [World.setRow_alloc_new]
              have HX2 := Lib.hid (show Below W2.heap.size W2 (V1.alloc (.cells (bV zL) 26)) from HX1.out.alloc HX1.out.size _)
              generalize V1.alloc (.cells (bV zL) 26) = V2 at *
              go_simp
              go_wp2_with fail
              go_roundw
              case rel => exact ⟨t + 1, ht4, by go_num, HX2.out⟩
              case measure => simp [intOf]; omega
          · have HOK := Lib.hid (show ¬ ClimbOk (i : Int) M pl from fun ⟨j', k', e1, e2, h3, h4, h5⟩ => by omega)
            go_wp2_with (first | fail | (with_reducible refine held (o := ⟨some 85, _, _, _, _, _⟩) ?_))
            unfold Held
            refine wpList_load_mid rfl 26 (.tmp 84) rfl lb (i * 32) (by kernel_rfl) _ _ ((HE.out.2.1.below HX.out (Nat.le_refl _)).elem0 him HDe.out) Tryd.underlying26 rfl (by rw [List.length_map, hD]; kernel_rfl) ?_
            rw [show (D.map (Value.int .u8)).toArray = bV D from rfl]
            go_wp2_with fail
            refine (climbE_any D hD (i : Int) M pa pb 0 pl pcap P wr (HE.out.2.2.1.below HX.out (Nat.le_refl _)) hplc (HE.out.2.2.2.below HX.out)).mono ?_
            rintro e V1 ⟨hC, hv1⟩
            have hC : e = .returned (.tuple #[.agg (bV zL), .int .i64 1]) := by
              rcases hC with ⟨j', k', e1, e2, h3, h4, h5, _⟩ | ⟨_, h⟩
              · exact absurd ⟨j', k', e1, e2, h3, h4, h5⟩ HOK.out
              · exact h
            subst hC
            have HX1 := Lib.hid (show Below W2.heap.size W2 V1 from below_after HX.out hv1 HX.out.size)
            clear hv1
            go_wp2_with (with_reducible refine held (o := ⟨none, _, _, _, _, _⟩) ?_)
            unfold Held
            refine wpList_store_row rfl 26 (.tmp 13) (.tmp 90) (by kernel_rfl) V1.heap.size (bV zL) (by kernel_rfl) (by kernel_rfl) 26 _ (blk_new V1 _) (by kernel_rfl) (by kernel_rfl) (bV_one _) ?_
            rw [World.setRow_alloc_new]
            have HX2 := Lib.hid (show Below W2.heap.size W2 (V1.alloc (.cells (bV zL) 26)) from HX1.out.alloc HX1.out.size _)
            generalize V1.alloc (.cells (bV zL) 26) = V2 at *
            go_simp
            go_wp2_with fail
            go_roundw
            case rel => exact ⟨t + 1, ht4, by go_num, HX2.out⟩
            case measure => simp [intOf]; omega
        · have HOK := Lib.hid (show ¬ ClimbOk (i : Int) M pl from fun ⟨j', k', e1, e2, h3, h4, h5⟩ => by omega)
          go_wp2_with (first | fail | (with_reducible refine held (o := ⟨some 85, _, _, _, _, _⟩) ?_))
          unfold Held
          refine wpList_load_mid rfl 26 (.tmp 84) rfl lb (i * 32) (by kernel_rfl) _ _ ((HE.out.2.1.below HX.out (Nat.le_refl _)).elem0 him HDe.out) Tryd.underlying26 rfl (by rw [List.length_map, hD]; kernel_rfl) ?_
          rw [show (D.map (Value.int .u8)).toArray = bV D from rfl]
          go_wp2_with fail
          refine (climbE_any D hD (i : Int) M pa pb 0 pl pcap P wr (HE.out.2.2.1.below HX.out (Nat.le_refl _)) hplc (HE.out.2.2.2.below HX.out)).mono ?_
          rintro e V1 ⟨hC, hv1⟩
          have hC : e = .returned (.tuple #[.agg (bV zL), .int .i64 1]) := by
            rcases hC with ⟨j', k', e1, e2, h3, h4, h5, _⟩ | ⟨_, h⟩
            · exact absurd ⟨j', k', e1, e2, h3, h4, h5⟩ HOK.out
            · exact h
          subst hC
          have HX1 := Lib.hid (show Below W2.heap.size W2 V1 from below_after HX.out hv1 HX.out.size)
          clear hv1
          go_wp2_with (with_reducible refine held (o := ⟨none, _, _, _, _, _⟩) ?_)
          unfold Held
          refine wpList_store_row rfl 26 (.tmp 13) (.tmp 90) (by kernel_rfl) V1.heap.size (bV zL) (by kernel_rfl) (by kernel_rfl) 26 _ (blk_new V1 _) (by kernel_rfl) (by kernel_rfl) (bV_one _) ?_
          rw [World.setRow_alloc_new]
          have HX2 := Lib.hid (show Below W2.heap.size W2 (V1.alloc (.cells (bV zL) 26)) from HX1.out.alloc HX1.out.size _)
          generalize V1.alloc (.cells (bV zL) 26) = V2 at *
          go_simp
          go_wp2_with fail
          go_roundw
          case rel => exact ⟨t + 1, ht4, by go_num, HX2.out⟩
          case measure => simp [intOf]; omega
      · have k1 : ¬ (t : Int) < 4 := by omega
        go_wp2
        go_ret
        exact ⟨rfl, HE.out.1.trans (hB.mono HE.out.1.size)⟩
  · have h0 : A < 0 ∨ ¬ A < 0 := by omega
    rcases h0 with h0 | h0
    · go_wp2
      go_ret
      exact ⟨rfl, HB1.out⟩
    · have h1 : (m : Int) ≤ A := by omega
      go_wp2
      go_ret
      exact ⟨rfl, HB1.out⟩
end Go.Proofs.YthbjjfblapfjdaaDoor
