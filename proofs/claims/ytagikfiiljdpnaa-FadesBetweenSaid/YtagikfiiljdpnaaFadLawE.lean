/- The walk of FadesBetween (layer 27). -/
import Derived.Test.YtagikfiiljdpnaaFadLawC
import Derived.Test.YtagikfiiljdpnaaFadLawD
import Derived.BigQuiet
namespace Go.Proofs.Ytagikfiiljdpnaa
open Go.ChangeShapes Go.WideShapes Go.ChangeAt Go.RowKit

theorem gain_mono {i n : Int} (h0 : 0 ≤ i) (h1 : i + 1 < n) : gainV i n ≤ gainV (i + 1) n := by
  unfold gainV
  exact Int.ediv_le_ediv (by omega) (by omega)
theorem in_hi (l : List Int) (n q : Nat) (hl : q < l.length) (h : n ≤ q) : (fdL l n (fun i => i) n).getD q 0 = l.getD q 0 := by
  rw [List.getD_eq_getElem?_getD, fdI_get, getD_map hl, if_neg (by omega)]
theorem in_lo (l : List Int) (n q : Nat) (hl : q < l.length) (h : q < n) : (fdL l n (fun i => i) n).getD q 0 = gmul (l.getD q 0) (gainV q n) := by
  rw [List.getD_eq_getElem?_getD, fdI_get, getD_map hl, if_pos h]
theorem gmul_clip (x g : Int) : gmul x g = gmul (clip x) g := by
  unfold gmul
  rw [show clip (clip x) = clip x by unfold clip; omega]
theorem gmul_bd (x : Int) {g : Int} (g1 : 0 ≤ g) (g2 : g < 65536) : min 0 (clip x) ≤ gmul x g ∧ gmul x g ≤ max 0 (clip x) := by
  obtain ⟨e, p1, p2⟩ := gmul_in (clip_lo x) (clip_hi x) g1 g2
  rw [gmul_clip, e]
  generalize clip x * g = p at *
  generalize clip x = c at *
  omega
theorem gmul_up (x : Int) {g h : Int} (g1 : 0 ≤ g) (gh : g ≤ h) (h2 : h < 65536) : (0 ≤ clip x → gmul x g ≤ gmul x h) ∧ (clip x < 0 → gmul x h ≤ gmul x g) := by
  obtain ⟨e1, _, _⟩ := gmul_in (clip_lo x) (clip_hi x) g1 (show g < 65536 by omega)
  obtain ⟨e2, _, _⟩ := gmul_in (clip_lo x) (clip_hi x) (show 0 ≤ h by omega) h2
  rw [gmul_clip, gmul_clip x h, e1, e2]
  refine ⟨fun hc => Int.ediv_le_ediv (by omega) (Int.mul_le_mul_of_nonneg_left gh hc), fun hc => Int.ediv_le_ediv (by omega) (Int.mul_le_mul_of_nonpos_left (by omega) gh)⟩

set_option maxRecDepth 100000 in
set_option maxHeartbeats 16000000 in
theorem fadesBetween_walk (a : Option Addr) (b off len cap : Nat) (n : Int) (l : List Int) (w : World) (hR : Row w a b off len l) :
    Calls Try.prog 6 #[.slice a len cap, .int .i64 n] w fun e w' => e = .returned (.bool true) ∧ Below w.heap.size w w' := by
  have HL := Lib.hid hR.len
  go_enter Try.func6, Try.ntmps6
  go_wp2_with fail
  refine (sane_any w).mono ?_; rintro e w1 ⟨rfl, hB⟩
  replace hR := hR.below hB (Nat.le_refl _)
  go_wp2_with fail
  refine (rfew_any _ _ _ _).mono ?_; rintro e w' ⟨rfl, rfl⟩
  by_cases hf : (len : Int) ≤ 1000
  · rw [decide_eq_true hf]
    by_cases hok : FOk len n
    · obtain ⟨h1, h2, h3⟩ := hok
      obtain ⟨M, rfl⟩ := Int.eq_ofNat_of_zero_le h2
      go_wp2_with fail
      refine (in_ok a b off len cap M l _ hR (by omega) (by omega)).mono ?_; rintro e w2 ⟨v, rfl, hO, hb⟩
      obtain ⟨a2, b2, d2, rfl, R2, -, -⟩ := hO.row
      have lI : (fdL l M (fun i => i) M).length = len := by rw [fdL_len]; exact HL.out
      rw [lI] at R2 ⊢
      replace hR := hR.below hb (Nat.le_refl _)
      replace hB := below_after hB hb hB.size
      clear hb hO lI
      have HR := Lib.hid (show _ ∧ _ from ⟨hR, R2⟩); clear hR R2
      have gHI := in_hi l M
      have gLO := in_lo l M
      rw [HL.out] at gHI gLO
      have HG := Lib.hid (show _ ∧ _ from ⟨gHI, gLO⟩); clear gHI gLO
      generalize fdL l M (fun i => i) M = li at *
      have hm0 : decide ((M : Int) < 0) = false := decide_eq_false (by omega)
      have hm1 : decide ((len : Int) < (M : Int)) = false := decide_eq_false (by omega)
      have hm2 : decide (len < M) = false := decide_eq_false (by omega)
      go_wp2_with fail
      go_loopw [57] (fun i wr => ∃ k : Nat, k ≤ len ∧ i = .int .i64 k ∧ Below w2.heap.size w2 wr) (fun i _ => len - (intOf i).toNat)
      case atStart => exact ⟨0, Nat.zero_le _, rfl, Below.refl _ _⟩
      case round =>
        obtain ⟨k, hk, rfl, hB2⟩ := hrel
        by_cases hlt : k < len
        · obtain rfl := HR.out.1.adr (by omega)
          obtain rfl := HR.out.2.adr (by omega)
          have cx := (HR.out.1.below hB2 (Nat.le_refl _)).cel k hlt
          have cy := (HR.out.2.below hB2 (Nat.le_refl _)).cel k hlt
          rw [Nat.zero_add] at cy
          by_cases hi : M ≤ k
          · rw [HG.out.1 k hlt hi] at cy
            generalize l.getD k 0 = X at *
            have y5 : ((X != X) = false) := by simp
            have y6 : (M : Int) ≤ (k : Int) := by omega
            go_wp2
            go_roundw
            case rel => exact ⟨k + 1, by omega, by go_num, hB2⟩
            case measure => simp [intOf]; omega
          · have gl := HG.out.2 k hlt (by omega)
            rw [gl] at cy
            have gb := gainV_bd (i := (k : Int)) (n := (M : Int)) (by omega) (by omega)
            have hbd := gmul_bd (l.getD k 0) gb.1 gb.2
            have y6 : ¬ ((M : Int) ≤ (k : Int)) := by omega
            by_cases hz : k = 0
            · generalize l.getD k 0 = X at *
              generalize gmul X (gainV (k : Int) M) = Y at *
              generalize hc : clip X = c at *
              have HC := Lib.hid hc; clear hc gl gb
              have z3 : ¬ ((0 : Int) < (k : Int)) := by omega
              have z5 : decide ((0 : Int) < (k : Int)) = false := decide_eq_false z3
              have z6 : decide (0 < k) = false := decide_eq_false (by omega)
              have HZ := Lib.hid hz; clear hz
              have y7 : ¬ (Y < min 0 c) := by omega
              have y8 : ¬ (max 0 c < Y) := by omega
              rcases (show c < 0 ∨ c = 0 ∨ 0 < c by omega) with hv | hv0 | hv
              · have w1 : min 0 c = c := by omega
                have w2 : max 0 c = 0 := by omega
                rw [w1] at y7
                rw [w2] at y8
                have w3 : ¬ (0 < c) := by omega
                have w4 : ¬ (0 ≤ c) := by omega
                have w6 : c ≤ 0 := by omega
                have w7 : decide (0 ≤ c) = false := decide_eq_false (by omega)
                have w8 : decide (c < 0) = true := decide_eq_true (by omega)
                clear hbd w1 w2
                go_wp2_with (go_at_call 21; refine (clip_any _ _).mono ?_; rintro e w' ⟨rfl, rfl⟩; rw [HC.out])
                go_quiet (fail)
                go_wp2
                go_roundw
                case rel => exact ⟨k + 1, by omega, by go_num, below_drewN hB2 _⟩
                case measure => simp [intOf]; omega
              · have y7a : ¬ (Y < c) := by omega
                have y7b : ¬ (Y < 0) := by omega
                have y8a : ¬ (c < Y) := by omega
                have y8b : ¬ (0 < Y) := by omega
                have w3 : ¬ (0 < c) := by omega
                have w4 : ¬ (c < 0) := by omega
                have w6 : c ≤ 0 := by omega
                have w9 : 0 ≤ c := by omega
                have w7 : decide (0 ≤ c) = true := decide_eq_true (by omega)
                have w8 : decide (c < 0) = false := decide_eq_false (by omega)
                have HV0 := Lib.hid hv0
                clear hbd hv0 y7 y8
                go_wp2_with (go_at_call 21; refine (clip_any _ _).mono ?_; rintro e w' ⟨rfl, rfl⟩; rw [HC.out])
                go_quiet (fail)
                go_wp2
                go_roundw
                case rel => exact ⟨k + 1, by omega, by go_num, below_drewN hB2 _⟩
                case measure => simp [intOf]; omega
              · have w1 : min 0 c = 0 := by omega
                have w2 : max 0 c = c := by omega
                rw [w1] at y7
                rw [w2] at y8
                have w3 : ¬ (c < 0) := by omega
                have w4 : ¬ (c ≤ 0) := by omega
                have w6 : 0 ≤ c := by omega
                have w7 : decide (0 ≤ c) = true := decide_eq_true (by omega)
                have w8 : decide (c < 0) = false := decide_eq_false (by omega)
                clear hbd w1 w2
                go_wp2_with (go_at_call 21; refine (clip_any _ _).mono ?_; rintro e w' ⟨rfl, rfl⟩; rw [HC.out])
                go_quiet (fail)
                go_wp2
                go_roundw
                case rel => exact ⟨k + 1, by omega, by go_num, below_drewN hB2 _⟩
                case measure => simp [intOf]; omega
            · obtain ⟨j, hj⟩ : ∃ j, k = j + 1 := ⟨k - 1, by omega⟩
              have gl2 := HG.out.2 j (by omega) (by omega)
              have cx2 := (HR.out.1.below hB2 (Nat.le_refl _)).cel j (by omega)
              have cy2 := (HR.out.2.below hB2 (Nat.le_refl _)).cel j (by omega)
              rw [gl2, Nat.zero_add] at cy2
              have gb2 := gainV_bd (i := (j : Int)) (n := (M : Int)) (by omega) (by omega)
              have gm := gain_mono (i := (j : Int)) (n := (M : Int)) (by omega) (by omega)
              rw [show (j : Int) + 1 = (k : Int) by omega] at gm
              have hup := gmul_up (l.getD k 0) gb2.1 gm gb.2
              have hY : l.getD k 0 = l.getD j 0 → gmul (l.getD k 0) (gainV (j : Int) M) = gmul (l.getD j 0) (gainV (j : Int) M) := fun h => by rw [h]
              generalize gmul (l.getD k 0) (gainV (j : Int) M) = Y3 at *
              generalize gmul (l.getD k 0) (gainV (k : Int) M) = Y at *
              generalize gmul (l.getD j 0) (gainV (j : Int) M) = Y2 at *
              generalize l.getD k 0 = X at *
              generalize l.getD j 0 = X2 at *
              have z1 : IntKind.i64.wrap ((k : Int) - 1) = (j : Int) := by rw [IntKind.wrap_i64]; omega
              have z2 : (k : Int) - 1 = (j : Int) := by omega
              have z7 : IntKind.i64.wrap (j : Int) = (j : Int) := by rw [IntKind.wrap_i64]; omega
              have z3 : (0 : Int) < (k : Int) := by omega
              have z5 : decide ((0 : Int) < (k : Int)) = true := decide_eq_true z3
              have z6 : decide (0 < k) = true := decide_eq_true (by omega)
              have z4 : (j : Int) < (len : Int) := by omega
              generalize hc : clip X = c at *
              have HC := Lib.hid hc
              have y7 : ¬ (Y < min 0 c) := by omega
              have y8 : ¬ (max 0 c < Y) := by omega
              have HKK := Lib.hid hj
              clear hc gl gl2 gb gb2 gm hj hz
              by_cases hXX : X = X2
              · have hY3 := hY hXX
                rw [hY3] at hup
                have HU := Lib.hid hup
                subst hXX
                clear hY hY3 hup
                rcases (show c < 0 ∨ c = 0 ∨ 0 < c by omega) with hv | hv0 | hv
                · have w1 : min 0 c = c := by omega
                  have w2 : max 0 c = 0 := by omega
                  rw [w1] at y7
                  rw [w2] at y8
                  have w3 : ¬ (0 < c) := by omega
                  have w4 : ¬ (0 ≤ c) := by omega
                  have w6 : c ≤ 0 := by omega
                  have w7 : decide (0 ≤ c) = false := decide_eq_false (by omega)
                  have w8 : decide (c < 0) = true := decide_eq_true (by omega)
                  have w5 : ¬ (Y2 < Y) := by have := HU.out.2 hv; omega
                  have w10 : decide (Y2 < Y) = false := decide_eq_false w5
                  clear hbd w1 w2
                  go_wp2_with (go_at_call 21; refine (clip_any _ _).mono ?_; rintro e w' ⟨rfl, rfl⟩; rw [HC.out])
                  go_quiet (fail)
                  go_wp2
                  go_roundw
                  case rel => exact ⟨k + 1, by omega, by go_num, below_drewN hB2 _⟩
                  case measure => simp [intOf]; omega
                · have y7a : ¬ (Y < c) := by omega
                  have y7b : ¬ (Y < 0) := by omega
                  have y8a : ¬ (c < Y) := by omega
                  have y8b : ¬ (0 < Y) := by omega
                  have w3 : ¬ (0 < c) := by omega
                  have w4 : ¬ (c < 0) := by omega
                  have w6 : c ≤ 0 := by omega
                  have w9 : 0 ≤ c := by omega
                  have w7 : decide (0 ≤ c) = true := decide_eq_true (by omega)
                  have w8 : decide (c < 0) = false := decide_eq_false (by omega)
                  have w5 : ¬ (Y < Y2) := by have := HU.out.1 (by omega); omega
                  have w10 : decide (Y < Y2) = false := decide_eq_false w5
                  have HV0 := Lib.hid hv0
                  clear hbd hv0 y7 y8
                  go_wp2_with (go_at_call 21; refine (clip_any _ _).mono ?_; rintro e w' ⟨rfl, rfl⟩; rw [HC.out])
                  go_quiet (fail)
                  go_wp2
                  go_roundw
                  case rel => exact ⟨k + 1, by omega, by go_num, below_drewN hB2 _⟩
                  case measure => simp [intOf]; omega
                · have w1 : min 0 c = 0 := by omega
                  have w2 : max 0 c = c := by omega
                  rw [w1] at y7
                  rw [w2] at y8
                  have w3 : ¬ (c < 0) := by omega
                  have w4 : ¬ (c ≤ 0) := by omega
                  have w6 : 0 ≤ c := by omega
                  have w7 : decide (0 ≤ c) = true := decide_eq_true (by omega)
                  have w8 : decide (c < 0) = false := decide_eq_false (by omega)
                  have w5 : ¬ (Y < Y2) := by have := HU.out.1 (by omega); omega
                  have w10 : decide (Y < Y2) = false := decide_eq_false w5
                  clear hbd w1 w2
                  go_wp2_with (go_at_call 21; refine (clip_any _ _).mono ?_; rintro e w' ⟨rfl, rfl⟩; rw [HC.out])
                  go_quiet (fail)
                  go_wp2
                  go_roundw
                  case rel => exact ⟨k + 1, by omega, by go_num, below_drewN hB2 _⟩
                  case measure => simp [intOf]; omega
              · have w0 : ((X == X2) = false) := by simpa using hXX
                clear hY hup
                rcases (show c < 0 ∨ c = 0 ∨ 0 < c by omega) with hv | hv0 | hv
                · have w1 : min 0 c = c := by omega
                  have w2 : max 0 c = 0 := by omega
                  rw [w1] at y7
                  rw [w2] at y8
                  have w3 : ¬ (0 < c) := by omega
                  have w4 : ¬ (0 ≤ c) := by omega
                  have w6 : c ≤ 0 := by omega
                  have w7 : decide (0 ≤ c) = false := decide_eq_false (by omega)
                  have w8 : decide (c < 0) = true := decide_eq_true (by omega)
                  clear hbd w1 w2
                  go_wp2_with (go_at_call 21; refine (clip_any _ _).mono ?_; rintro e w' ⟨rfl, rfl⟩; rw [HC.out])
                  go_quiet (fail)
                  go_wp2
                  go_roundw
                  case rel => exact ⟨k + 1, by omega, by go_num, below_drewN hB2 _⟩
                  case measure => simp [intOf]; omega
                · have y7a : ¬ (Y < c) := by omega
                  have y7b : ¬ (Y < 0) := by omega
                  have y8a : ¬ (c < Y) := by omega
                  have y8b : ¬ (0 < Y) := by omega
                  have w3 : ¬ (0 < c) := by omega
                  have w4 : ¬ (c < 0) := by omega
                  have w6 : c ≤ 0 := by omega
                  have w9 : 0 ≤ c := by omega
                  have w7 : decide (0 ≤ c) = true := decide_eq_true (by omega)
                  have w8 : decide (c < 0) = false := decide_eq_false (by omega)
                  have HV0 := Lib.hid hv0
                  clear hbd hv0 y7 y8
                  go_wp2_with (go_at_call 21; refine (clip_any _ _).mono ?_; rintro e w' ⟨rfl, rfl⟩; rw [HC.out])
                  go_quiet (fail)
                  go_wp2
                  go_roundw
                  case rel => exact ⟨k + 1, by omega, by go_num, below_drewN hB2 _⟩
                  case measure => simp [intOf]; omega
                · have w1 : min 0 c = 0 := by omega
                  have w2 : max 0 c = c := by omega
                  rw [w1] at y7
                  rw [w2] at y8
                  have w3 : ¬ (c < 0) := by omega
                  have w4 : ¬ (c ≤ 0) := by omega
                  have w6 : 0 ≤ c := by omega
                  have w7 : decide (0 ≤ c) = true := decide_eq_true (by omega)
                  have w8 : decide (c < 0) = false := decide_eq_false (by omega)
                  clear hbd w1 w2
                  go_wp2_with (go_at_call 21; refine (clip_any _ _).mono ?_; rintro e w' ⟨rfl, rfl⟩; rw [HC.out])
                  go_quiet (fail)
                  go_wp2
                  go_roundw
                  case rel => exact ⟨k + 1, by omega, by go_num, below_drewN hB2 _⟩
                  case measure => simp [intOf]; omega
        · obtain rfl : k = len := by omega
          go_wp2
          go_ret
          exact ⟨rfl, below_after hB hB2 hB.size⟩
    · have hof : n < 0 ∨ (0 ≤ n ∧ (len : Int) < n) := by unfold FOk at hok; omega
      go_wp2_with fail
      refine (in_no a len cap n _ hok).mono ?_; rintro e w2 ⟨rfl, rfl⟩
      rcases hof with h | ⟨h, h'⟩
      all_goals
        go_wp2
        go_ret
        exact ⟨rfl, hB⟩
  · rw [decide_eq_false hf]
    go_wp2
    go_ret
    exact ⟨rfl, hB⟩
end Go.Proofs.Ytagikfiiljdpnaa
