/- Contracts of the reference of layer 10. -/
import Derived.Test.YtkgimglkiniofaaMetreCheck
namespace Go.Proofs.Ytkgimglkiniofaa
open Go.ChangeShapes Go.WideShapes Go.ChangeAt Go.RowKit

set_option maxHeartbeats 1000000 in
theorem rmcheck_any (a : Option Addr) (n cap b off : Nat) (l : List Mt) (w : World) (h : Ms w a n b off l) (hn : n ≤ 9223372036854775807) :
    Calls Try.prog 14 #[.slice a n cap] w fun e w' => e = .returned (.int .i64 (chk l)) ∧ Below w.heap.size w w' := by
  obtain ⟨hl, ha, hc⟩ := h
  have HC := Lib.hid hc; clear hc
  by_cases hn1 : n < 1
  · have e : chk l = 100 := chk_no fun k => by have := k.1; omega
    rw [e]
    go_enter Try.func14, Try.ntmps14
    go_wp2
    go_ret
    exact ⟨rfl, Below.refl _ _⟩
  · by_cases hn2 : 64 < n
    · have e : chk l = 100 := chk_no fun k => by have := k.2.1; omega
      rw [e]
      go_enter Try.func14, Try.ntmps14
      go_wp2
      go_ret
      exact ⟨rfl, Below.refl _ _⟩
    · obtain ⟨rfl, hbw⟩ := ha (by omega)
      have hb1 : ((n : Int) == 0) = false := by simp; omega
      have hb2 : decide ((64 : Int) < (n : Int)) = false := by simp; omega
      obtain ⟨c0, c1, c2⟩ := HC.out 0 (by omega)
      simp only [Nat.zero_mul, Nat.add_zero] at c0 c1 c2
      by_cases h0 : (nthM l 0).1 = 0
      · have h0' : ((nthM l 0).1 != 0) = false := by simpa using h0
        have H0 := Lib.hid h0; have HL := Lib.hid hl; clear h0 hl ha
        go_enter Try.func14, Try.ntmps14
        go_wp2
        clear c0 c1 c2
        go_loopw [3] (fun i wr => ∃ k : Nat, k ≤ n ∧ i = .int .i64 k ∧ okTo l k ∧ Below w.heap.size w wr) (fun i _ => n - (intOf i).toNat)
        case atStart => exact ⟨0, Nat.zero_le _, rfl, fun i hi => by omega, Below.refl _ _⟩
        case round =>
          obtain ⟨k, hk, rfl, hok, hb⟩ := hrel
          have HK := Lib.hid hok; clear hok
          by_cases hlt : k < n
          · obtain ⟨c0, c1, c2⟩ := HC.out k hlt
            replace c0 := (hb.cell (p := ⟨b, off + k * 3, none⟩) hbw).trans c0
            replace c1 := (hb.cell (p := ⟨b, off + k * 3 + 1, none⟩) hbw).trans c1
            replace c2 := (hb.cell (p := ⟨b, off + k * 3 + 2, none⟩) hbw).trans c2
            have hs := okTo_succ l k
            have hz := hb.size
            have HS := Lib.hid hs; clear hs
            generalize hx : nthM l k = x at *
            obtain ⟨B, E, U⟩ := x
            have HX := Lib.hid hx; clear hx
            dsimp only at c0 c1 c2
            clear hb1 hb2
            by_cases q1 : 0 ≤ B
            case neg =>
              have dd0 : decide (B < 0) = true := by simp; omega
              have e : chk l = 100 := chk_no fun g => q1 (by have h := (g.2.2.2 k (by rw [HL.out]; exact hlt)).1; rw [HX.out] at h; exact h.1)
              have E100 := Lib.hid e; clear e
              go_wp2
              go_quiet (fail)
              go_wp2
              go_ret
              exact ⟨ret_int E100.out.symm, below_drewN (hb.alloc hz _) _⟩
            have dd0 : decide (B < 0) = false := by simp; omega
            by_cases q2 : B ≤ 1048576
            case neg =>
              have dd1 : decide (1048576 < B) = true := by simp; omega
              have e : chk l = 100 := chk_no fun g => q2 (by have h := (g.2.2.2 k (by rw [HL.out]; exact hlt)).1; rw [HX.out] at h; exact h.2.1)
              have E100 := Lib.hid e; clear e
              go_wp2
              go_quiet (fail)
              go_wp2
              go_ret
              exact ⟨ret_int E100.out.symm, below_drewN (hb.alloc hz _) _⟩
            have dd1 : decide (1048576 < B) = false := by simp; omega
            by_cases q3 : 1 ≤ E
            case neg =>
              have dd2 : decide (E < 1) = true := by simp; omega
              have e : chk l = 100 := chk_no fun g => q3 (by have h := (g.2.2.2 k (by rw [HL.out]; exact hlt)).1; rw [HX.out] at h; exact h.2.2.1)
              have E100 := Lib.hid e; clear e
              go_wp2
              go_quiet (fail)
              go_wp2
              go_ret
              exact ⟨ret_int E100.out.symm, below_drewN (hb.alloc hz _) _⟩
            have dd2 : decide (E < 1) = false := by simp; omega
            by_cases q4 : E ≤ 32
            case neg =>
              have dd3 : decide (32 < E) = true := by simp; omega
              have e : chk l = 100 := chk_no fun g => q4 (by have h := (g.2.2.2 k (by rw [HL.out]; exact hlt)).1; rw [HX.out] at h; exact h.2.2.2.1)
              have E100 := Lib.hid e; clear e
              go_wp2
              go_quiet (fail)
              go_wp2
              go_ret
              exact ⟨ret_int E100.out.symm, below_drewN (hb.alloc hz _) _⟩
            have dd3 : decide (32 < E) = false := by simp; omega
            by_cases q5 : 1 ≤ U
            case neg =>
              have dd4 : decide (U < 1) = true := by simp; omega
              have e : chk l = 100 := chk_no fun g => q5 (by have h := (g.2.2.2 k (by rw [HL.out]; exact hlt)).1; rw [HX.out] at h; exact h.2.2.2.2.1)
              have E100 := Lib.hid e; clear e
              go_wp2
              go_quiet (fail)
              go_wp2
              go_ret
              exact ⟨ret_int E100.out.symm, below_drewN (hb.alloc hz _) _⟩
            have dd4 : decide (U < 1) = false := by simp; omega
            by_cases q6 : U ≤ 65536
            case neg =>
              have dd5 : decide (65536 < U) = true := by simp; omega
              have e : chk l = 100 := chk_no fun g => q6 (by have h := (g.2.2.2 k (by rw [HL.out]; exact hlt)).1; rw [HX.out] at h; exact h.2.2.2.2.2)
              have E100 := Lib.hid e; clear e
              go_wp2
              go_quiet (fail)
              go_wp2
              go_ret
              exact ⟨ret_int E100.out.symm, below_drewN (hb.alloc hz _) _⟩
            have dd5 : decide (65536 < U) = false := by simp; omega
            have hm : okM (B, E, U) := ⟨q1, q2, q3, q4, q5, q6⟩
            have HM := Lib.hid hm; clear hm
            cases k with
            | zero =>
              simp only [Nat.zero_mul, Nat.add_zero] at c0 c1 c2
              go_wp2
              go_quiet (fail)
              go_wp2
              go_roundw
              case rel => exact ⟨1, by omega, by go_num, HS.out.2 ⟨HK.out, HM.out, fun h => absurd h (by omega)⟩, below_drewN (hb.alloc hz _) _⟩
              case measure => simp [intOf]; omega
            | succ j =>
              obtain ⟨p0, _, _⟩ := HC.out j (by omega)
              replace p0 := (hb.cell (p := ⟨b, off + j * 3, none⟩) hbw).trans p0
              have hj : (j : Int) < n := by omega
              have hbr : b < wr.heap.size := by omega
              have ng : decide ((0 : Int) < (j : Int) + 1) = true := decide_eq_true (by omega)
              generalize hy : (nthM l j).1 = y at *
              have HY := Lib.hid hy; clear hy
              by_cases q7 : y < B
              · have q8 : decide (B ≤ y) = false := by simp; omega
                go_wp2
                go_quiet (fail)
                go_wp2
                go_roundw
                case rel => exact ⟨j + 1 + 1, by omega, by go_num, HS.out.2 ⟨HK.out, HM.out, fun _ => by rw [Nat.add_sub_cancel, HY.out]; exact q7⟩, below_drewN (hb.alloc hz _) _⟩
                case measure => simp [intOf]; omega
              · have q8 : decide (B ≤ y) = true := by simp; omega
                have e : chk l = 100 := chk_no fun g => q7 (by have h := (g.2.2.2 (j + 1) (by rw [HL.out]; exact hlt)).2 (by omega); rw [Nat.add_sub_cancel, HY.out, HX.out] at h; exact h)
                have E100 := Lib.hid e; clear e
                go_wp2
                go_quiet (fail)
                go_wp2
                go_ret
                exact ⟨ret_int E100.out.symm, below_drewN (hb.alloc hz _) _⟩
          · obtain rfl : k = n := by omega
            have e : chk l = 0 := chk_yes ⟨by rw [HL.out]; omega, by rw [HL.out]; omega, H0.out, by rw [HL.out]; exact HK.out⟩
            have E0 := Lib.hid e; clear e
            go_wp2
            go_ret
            exact ⟨ret_int E0.out.symm, hb⟩
      · have h0' : ((nthM l 0).1 != 0) = true := by simpa using h0
        have e : chk l = 100 := chk_no fun g => h0 g.2.2.1
        rw [e]
        clear h0 e
        go_enter Try.func14, Try.ntmps14
        go_wp2
        go_ret
        exact ⟨rfl, Below.refl _ _⟩
end Go.Proofs.Ytkgimglkiniofaa
