/- The walk of FadesOverlap (layer 27). -/
import Derived.Test.YtagikfiiljdpnaaFadLawB
namespace Go.Proofs.Ytagikfiiljdpnaa
open Go.ChangeShapes Go.WideShapes Go.ChangeAt Go.RowKit

theorem getD_map {l : List Int} {f : Int → Int} {q : Nat} (h : q < l.length) : ((l[q]?).map f).getD 0 = f (l.getD q 0) := by
  simp [List.getD_eq_getElem?_getD, h]
theorem ov_lo (la lb : List Int) (M i : Nat) (h1 : M ≤ la.length) (hi : i < la.length - M) : (crossL la lb (la.length - M) M).getD i 0 = (fdL la M (fun i => la.length - 1 - i) M).getD i 0 := by
  rw [List.getD_eq_getElem?_getD, List.getD_eq_getElem?_getD, fdO_get la M M i h1 (by omega), getD_map (by omega), if_neg (by omega)]
  unfold crossL
  rw [List.append_assoc, List.getElem?_append_left (by simp; omega), List.getElem?_take_of_lt hi, List.getD_eq_getElem?_getD]
theorem ov_mid (la lb : List Int) (M k : Nat) (h1 : M ≤ la.length) (h2 : M ≤ lb.length) (hk : k < M) : (crossL la lb (la.length - M) M).getD (la.length - M + k) 0 = gadd ((fdL la M (fun i => la.length - 1 - i) M).getD (la.length - M + k) 0) ((fdL lb M (fun i => i) M).getD k 0) ∧
    (fdL la M (fun i => la.length - 1 - i) M).getD (la.length - M + k) 0 = gmul (la.getD (la.length - M + k) 0) (gainV ((M - 1 - k : Nat) : Int) M) ∧ (fdL lb M (fun i => i) M).getD k 0 = gmul (lb.getD k 0) (gainV k M) := by
  have e1 : (fdL la M (fun i => la.length - 1 - i) M).getD (la.length - M + k) 0 = gmul (la.getD (la.length - M + k) 0) (gainV ((M - 1 - k : Nat) : Int) M) := by
    rw [List.getD_eq_getElem?_getD, fdO_get la M M _ h1 (by omega), getD_map (by omega), if_pos (by omega), show la.length - 1 - (la.length - M + k) = M - 1 - k by omega]
  have e2 : (fdL lb M (fun i => i) M).getD k 0 = gmul (lb.getD k 0) (gainV k M) := by
    rw [List.getD_eq_getElem?_getD, fdI_get, getD_map (by omega), if_pos hk]
  refine ⟨?_, e1, e2⟩
  rw [e1, e2]
  unfold crossL
  rw [List.getD_eq_getElem?_getD, List.append_assoc, List.getElem?_append_right (by simp <;> omega), List.length_take, show la.length - M + k - min (la.length - M) la.length = k by omega, List.getElem?_append_left (by simpa using hk), List.getElem?_map, List.getElem?_range hk]
  rfl
theorem ov_hi (la lb : List Int) (M k : Nat) (h1 : M ≤ la.length) (hk : M ≤ k) (hk2 : k < lb.length) : (crossL la lb (la.length - M) M).getD (la.length - M + k) 0 = (fdL lb M (fun i => i) M).getD k 0 := by
  rw [List.getD_eq_getElem?_getD, List.getD_eq_getElem?_getD, fdI_get, getD_map hk2, if_neg (by omega)]
  unfold crossL
  rw [List.append_assoc, List.getElem?_append_right (by simp <;> omega), List.length_take, List.getElem?_append_right (by simp <;> omega), List.getElem?_drop]
  simp only [List.length_map, List.length_range]
  rw [show M + (la.length - M + k - min (la.length - M) la.length - M) = k by omega]
  simp [List.getD_eq_getElem?_getD, hk2]

set_option maxRecDepth 100000 in
set_option maxHeartbeats 2000000 in
theorem fadesOverlap_walk (a b : Option Addr) (ab ao bb bo an bn ac bc : Nat) (n : Int) (la lb : List Int) (w : World) (hRa : Row w a ab ao an la) (hRb : Row w b bb bo bn lb) (hac : an ≤ ac) (hbc : bn ≤ bc) (hna : a = none → ac = 0) (hnb : b = none → bc = 0) :
    Calls Try.prog 8 #[.slice a an ac, .slice b bn bc, .int .i64 n] w fun e w' => e = .returned (.bool true) ∧ Below w.heap.size w w' := by
  have HL := Lib.hid (show _ ∧ _ from ⟨hRa.len, hRb.len⟩)
  go_enter Try.func8, Try.ntmps8
  go_wp2_with fail
  refine (sane_any w).mono ?_; rintro e w1 ⟨rfl, hB⟩
  replace hRa := hRa.below hB (Nat.le_refl _)
  replace hRb := hRb.below hB (Nat.le_refl _)
  go_wp2_with fail
  refine (rfew_any _ _ _ _).mono ?_; rintro e w' ⟨rfl, rfl⟩
  by_cases hf : (an : Int) ≤ 1000
  · rw [decide_eq_true hf]
    go_wp2_with fail
    refine (rfew_any _ _ _ _).mono ?_; rintro e w' ⟨rfl, rfl⟩
    by_cases hf2 : (bn : Int) ≤ 1000
    · rw [decide_eq_true hf2]
      by_cases hok : FOk an n ∧ FOk bn n
      · obtain ⟨⟨h1, h2, h3⟩, ⟨h4, h5, h6⟩⟩ := hok
        obtain ⟨M, rfl⟩ := Int.eq_ofNat_of_zero_le h2
        go_wp2_with fail
        refine (cross_ok a b ab ao bb bo an bn ac bc M la lb _ hRa hRb (by omega) (by omega) (by omega) hac hbc hna hnb).mono ?_; rintro e w2 ⟨v, rfl, hO, hb⟩
        obtain ⟨a2, b2, d2, rfl, R2, -, -⟩ := hO.row
        replace hRa := hRa.below hb (Nat.le_refl _)
        replace hRb := hRb.below hb (Nat.le_refl _)
        replace hB := below_after hB hb hB.size
        clear hb hO
        go_wp2_with fail
        refine (out_ok a ab ao an ac M la _ hRa (by omega) (by omega)).mono ?_; rintro e w3 ⟨v, rfl, hO, hb⟩
        obtain ⟨a3, b3, d3, rfl, R3, -, -⟩ := hO.row
        replace hRb := hRb.below hb (Nat.le_refl _)
        replace R2 := R2.below hb (Nat.le_refl _)
        replace hB := below_after hB hb hB.size
        clear hb hO
        go_wp2_with fail
        refine (in_ok b bb bo bn bc M lb _ hRb (by omega) (by omega)).mono ?_; rintro e w4 ⟨v, rfl, hO, hb⟩
        obtain ⟨a4, b4, d4, rfl, R4, -, -⟩ := hO.row
        replace R2 := R2.below hb (Nat.le_refl _)
        replace R3 := R3.below hb (Nat.le_refl _)
        replace hB := below_after hB hb hB.size
        clear hb hO
        have lC : (crossL la lb (an - M) M).length = an - M + bn := by rw [crossL_len _ _ _ _ (by rw [HL.out.1]; omega) (by rw [HL.out.2]; omega), HL.out.2]
        have lO : (fdL la M (fun i => an - 1 - i) M).length = an := by rw [fdL_len]; exact HL.out.1
        have lI : (fdL lb M (fun i => i) M).length = bn := by rw [fdL_len]; exact HL.out.2
        rw [lC] at R2 ⊢
        rw [lO] at R3 ⊢
        rw [lI] at R4 ⊢
        obtain ⟨st, hst⟩ : ∃ st, st = an - M := ⟨_, rfl⟩
        have z1 : IntKind.i64.wrap ((an : Int) + (bn : Int)) = (an : Int) + (bn : Int) := by rw [IntKind.wrap_i64]; omega
        have z2 : IntKind.i64.wrap ((an : Int) + (bn : Int) - (M : Int)) = ((an - M + bn : Nat) : Int) := by rw [IntKind.wrap_i64]; omega
        have z3 : (an : Int) + (bn : Int) - (M : Int) = ((an - M + bn : Nat) : Int) := by omega
        rw [← hst] at z2 z3 R2 ⊢
        have HR := Lib.hid (show _ ∧ _ ∧ _ from ⟨R2, R3, R4⟩); clear R2 R3 R4
        have HST := Lib.hid hst; clear hst lC lO lI
        clear hRa hRb
        have gLO := ov_lo la lb M
        have gMI := ov_mid la lb M
        have gHI := ov_hi la lb M
        rw [HL.out.1, ← HST.out] at gLO gMI gHI
        have HG := Lib.hid (show _ ∧ _ ∧ _ from ⟨gLO, gMI, gHI⟩); clear gLO gMI gHI
        generalize crossL la lb st M = lc at *
        generalize fdL la M (fun i => an - 1 - i) M = lo at *
        generalize fdL lb M (fun i => i) M = li at *
        have hsn : st + M = an := by have := HST.out; omega
        go_wp2_with fail
        go_loopw [92] (fun i wr => ∃ k : Nat, k ≤ st + bn ∧ i = .int .i64 k ∧ Below w4.heap.size w4 wr) (fun i _ => st + bn - (intOf i).toNat)
        case atStart => exact ⟨0, Nat.zero_le _, rfl, Below.refl _ _⟩
        case round =>
          obtain ⟨k, hk, rfl, hB2⟩ := hrel
          by_cases hlt : k < st + bn
          · obtain rfl := HR.out.1.adr (by omega)
            have cv := (HR.out.1.below hB2 (Nat.le_refl _)).cel k hlt
            have y1 : IntKind.i64.wrap ((an : Int) - (M : Int)) = (st : Int) := by rw [IntKind.wrap_i64]; omega
            have y2 : IntKind.i64.wrap ((k : Int) - (st : Int)) = (k : Int) - (st : Int) := by rw [IntKind.wrap_i64]; omega
            have y3 : (an : Int) - (M : Int) = (st : Int) := by omega
            by_cases hlo : k < st
            · obtain rfl := HR.out.2.1.adr (by omega)
              have cx := (HR.out.2.1.below hB2 (Nat.le_refl _)).cel k (by omega)
              rw [HG.out.1 k (by omega) hlo] at cv
              rw [Nat.zero_add] at cv cx
              generalize lo.getD k 0 = X at *
              have y4 : (k : Int) - (st : Int) < 0 := by omega
              have y5 : ((X != X) = false) := by simp
              go_wp2
              go_roundw
              case rel => exact ⟨k + 1, by omega, by go_num, hB2⟩
              case measure => simp [intOf]; omega
            · by_cases hmid : k < an
              · obtain rfl := HR.out.2.1.adr (by omega)
                obtain rfl := HR.out.2.2.adr (by omega)
                obtain ⟨j, rfl⟩ : ∃ j, k = st + j := ⟨k - st, by omega⟩
                obtain ⟨e1, e2, e3⟩ := HG.out.2.1 j (by omega) (by rw [HL.out.2]; omega) (by omega)
                have cx := (HR.out.2.1.below hB2 (Nat.le_refl _)).cel (st + j) (by omega)
                have cy := (HR.out.2.2.below hB2 (Nat.le_refl _)).cel j (by omega)
                have y4 : ((st + j : Nat) : Int) - (st : Int) = (j : Int) := by omega
                have y6 : ¬ ((j : Int) < 0) := by omega
                have y7 : ¬ ((an : Int) ≤ ((st + j : Nat) : Int)) := by omega
                have y8 : (j : Int) < (bn : Int) := by omega
                have y9 : ((st + j : Nat) : Int) < (an : Int) := by omega
                have y10 : IntKind.i64.wrap (((st + j : Nat) : Int)) = ((st + j : Nat) : Int) := by rw [IntKind.wrap_i64]; omega
                have y11 : IntKind.i64.wrap (((st + j : Nat) : Int) - (st : Int)) = (j : Int) := by rw [IntKind.wrap_i64]; omega
                rw [e1] at cv
                rw [e2] at cv cx
                rw [e3] at cv cy
                have bX := And.intro (gmul_lo (la.getD (st + j) 0) (gainV ((M - 1 - j : Nat) : Int) M)) (gmul_hi (la.getD (st + j) 0) (gainV ((M - 1 - j : Nat) : Int) M))
                have bY := And.intro (gmul_lo (lb.getD j 0) (gainV j M)) (gmul_hi (lb.getD j 0) (gainV j M))
                generalize gmul (la.getD (st + j) 0) (gainV ((M - 1 - j : Nat) : Int) M) = X at *
                generalize gmul (lb.getD j 0) (gainV j M) = Y at *
                obtain ⟨kk, hkk⟩ : ∃ kk, kk = st + j := ⟨_, rfl⟩
                rw [Nat.zero_add] at cv cx cy
                rw [← hkk] at cv cx y4 y7 y9 y10 y11 ⊢
                have HKK := Lib.hid hkk
                have hkst : kk < st + bn := by omega
                clear hkk e1 e2 e3
                go_wp2_with fail
                go_still_tail 9, (by kernel_rfl)
                repeat still_step
                still_call (add_same _ _ _ bX.1 bX.2 bY.1 bY.2)
                repeat still_step
                refine wpStill_nil ?_
                have cv2 : wr.drew.cell? ⟨b2, kk, none⟩ = some (.int .i64 (gadd X Y)) := cv
                have hB3 := hB2.drew
                clear cv hB2
                show wpList _ _ _ _ _ wr.drew
                generalize wr.drew = w6 at *
                go_wp2
                go_roundw
                case rel => exact ⟨kk + 1, by omega, by go_num, hB3⟩
                case measure => simp [intOf]; omega
              · obtain ⟨j, rfl⟩ : ∃ j, k = st + j := ⟨k - st, by omega⟩
                obtain rfl := HR.out.2.2.adr (by omega)
                have cy := (HR.out.2.2.below hB2 (Nat.le_refl _)).cel j (by omega)
                rw [HG.out.2.2 j (by omega) (by omega) (by rw [HL.out.2]; omega)] at cv
                rw [Nat.zero_add] at cv cy
                generalize li.getD j 0 = Y at *
                have y4 : ((st + j : Nat) : Int) - (st : Int) = (j : Int) := by omega
                have y6 : ¬ ((j : Int) < 0) := by omega
                have y7 : (an : Int) ≤ ((st + j : Nat) : Int) := by omega
                have y8 : (j : Int) < (bn : Int) := by omega
                have y11 : IntKind.i64.wrap (((st + j : Nat) : Int) - (st : Int)) = (j : Int) := by rw [IntKind.wrap_i64]; omega
                obtain ⟨kk, hkk⟩ : ∃ kk, kk = st + j := ⟨_, rfl⟩
                rw [← hkk] at cv y4 y7 y11 ⊢
                have HKK := Lib.hid hkk
                have hkst : kk < st + bn := by omega
                clear hkk
                go_wp2
                go_roundw
                case rel => exact ⟨kk + 1, by omega, by go_num, hB2⟩
                case measure => simp [intOf]; omega
          · obtain rfl : k = st + bn := by omega
            go_wp2
            go_ret
            exact ⟨rfl, below_after hB hB2 hB.size⟩
      · go_wp2_with fail
        refine (cross_no a b an ac bn bc n _ hok).mono ?_; rintro e w2 ⟨rfl, hb⟩
        replace hRa := hRa.below hb (Nat.le_refl _)
        replace hRb := hRb.below hb (Nat.le_refl _)
        replace hB := below_after hB hb hB.size
        clear hb
        by_cases hoa : FOk an n
        · have hob : ¬ FOk bn n := fun h => hok ⟨hoa, h⟩
          go_wp2_with fail
          refine (out_all a ab ao an ac n la _ hRa (by omega)).mono ?_; rintro e w3 ⟨v, rfl, hO, hb⟩
          obtain ⟨a3, b3, d3, rfl, -, -, -⟩ := hO.row
          replace hRb := hRb.below hb (Nat.le_refl _)
          replace hB := below_after hB hb hB.size
          clear hb hO
          rw [show fE an n = 0 from if_pos hoa]
          go_wp2_with fail
          refine (in_no b bn bc n _ hob).mono ?_; rintro e w4 ⟨rfl, rfl⟩
          go_wp2
          go_ret
          exact ⟨rfl, hB⟩
        · go_wp2_with fail
          refine (out_no a an ac n _ hoa).mono ?_; rintro e w3 ⟨rfl, hb⟩
          replace hRb := hRb.below hb (Nat.le_refl _)
          replace hB := below_after hB hb hB.size
          clear hb
          go_wp2_with fail
          refine (in_all b bb bo bn bc n lb _ hRb (by omega)).mono ?_; rintro e w4 ⟨v, rfl, hO, hb⟩
          obtain ⟨a4, b4, d4, rfl, -, -, -⟩ := hO.row
          replace hB := below_after hB hb hB.size
          clear hb hO
          go_wp2
          go_ret
          exact ⟨rfl, hB⟩
    · rw [decide_eq_false hf2]
      go_wp2
      go_ret
      exact ⟨rfl, hB⟩
  · rw [decide_eq_false hf]
    go_wp2
    go_ret
    exact ⟨rfl, hB⟩
end Go.Proofs.Ytagikfiiljdpnaa
