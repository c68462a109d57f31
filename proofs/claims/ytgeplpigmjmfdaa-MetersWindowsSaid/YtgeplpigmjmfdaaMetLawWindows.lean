/- The walk of MetersWindows (layer 52). -/
import Derived.Test.YtgeplpigmjmfdaaMetLawSpec
namespace Go.Proofs.Ytgeplpigmjmfdaa
open Go.ChangeShapes Go.WideShapes Go.ChangeAt Go.RowKit

theorem winL_at {l : List Int} {s h c k : Nat} (hk : k < c) : (winL l s h c).getD k 0 = winV l (k * h) s := by
  unfold winL
  simp [List.getD_eq_getElem?_getD, List.getElem?_range hk]

set_option maxHeartbeats 8000000 in
theorem metersWindows_walk (a : Option Addr) (b off n cap : Nat) (l : List Int) (s h : Int) (w : World) (hR : Row w a b off n l) (hcap : n ≤ cap) (s0 : 0 ≤ s) (s1 : s ≤ 65535) (h0 : 0 ≤ h) (h1 : h ≤ 65535) :
    Calls Try.prog 5 #[.slice a n cap, .int .u16 s, .int .u16 h] w fun e w' => e = .returned (.bool true) ∧ Below w.heap.size w w' := by
  have hB := Below.refl w.heap.size w
  have R0 := hR
  clear hR
  obtain ⟨N, hN⟩ := Int.eq_ofNat_of_zero_le (show 0 ≤ 1 + s % 300 by omega)
  obtain ⟨H, hH⟩ := Int.eq_ofNat_of_zero_le (show 0 ≤ 1 + h by omega)
  have n1 : 1 ≤ N := by omega
  have n2 : N ≤ 300 := by omega
  have n3 : 1 ≤ H := by omega
  have n4 : H ≤ 65536 := by omega
  go_enter Try.func5, Try.ntmps5
  go_wp2_with fail
  refine (sane_any _).mono ?_; rintro e w1 ⟨rfl, hb⟩
  replace R0 := R0.below hb (Nat.le_refl _)
  replace hB := below_after hB hb hB.size
  clear hb
  by_cases hk : 300 < n
  · go_wp2
    go_ret
    exact ⟨rfl, hB⟩
  go_wp2_with fail
  refine (windows_ok _ b off _ _ N H l _ R0 (by omega) (by omega) (by omega) (by omega) (by omega)).mono ?_; rintro e w2 ⟨v, rfl, hO, hb⟩
  obtain ⟨a2, b2, c2, rfl, R1, L1, M1⟩ := hO.row
  replace R0 := R0.below hb (Nat.le_refl _)
  replace hB := below_after hB hb hB.size
  clear hO hb
  rw [winL_len] at R1 ⊢
  have cl := cnt_le (n := n) (s := N) (h := H)
  obtain ⟨c, hc⟩ : ∃ c, c = cnt n N H := ⟨_, rfl⟩
  rw [← hc] at R1 cl ⊢
  have HR := Lib.hid R0; have HR1 := Lib.hid R1; have HC := Lib.hid hc; have HB := Lib.hid hB
  clear R0 R1 hc hB L1 M1
  go_wp2_with fail
  go_loop [11, 12] (fun kk i => ∃ k p : Nat, k ≤ c ∧ p = k * H ∧ (p ≤ n + H) ∧ kk = .int .i64 k ∧ i = .int .i64 p) (fun _ i => n + 1 - (intOf i).toNat)
  case atStart => exact ⟨0, 0, Nat.zero_le _, by simp, by omega, rfl, rfl⟩
  case round =>
    obtain ⟨k, p, hkc, hp, hpn, rfl, rfl⟩ := hrel
    have HP := Lib.hid hp; clear hp
    by_cases hlt : p + N ≤ n
    · obtain rfl := HR.out.adr (by omega)
      have hkl : k < c := by rw [HC.out]; exact (cnt_lt n3).2 (by rw [← HP.out]; exact hlt)
      obtain rfl := HR1.out.adr (by omega)
      have hcell := HR1.out.cel k hkl
      rw [HC.out, winL_at (by rw [← HC.out]; exact hkl), ← HP.out, Nat.zero_add] at hcell
      have HW := Lib.hid (HR.out.sub hlt)
      go_wp2_with (go_at_call 9; refine (energy_ok _ b (off + p) _ _ _ _ HW.out (by omega)).mono ?_; rintro e w' ⟨rfl, rfl⟩; rw [show enV ((l.drop p).take N) N = winV l p N from rfl])
      go_round
      case rel => exact ⟨k + 1, p + H, by omega, by rw [HP.out, Nat.succ_mul], by omega, by go_num, by go_num⟩
      case measure => simp [intOf]; omega
    · have hk : k = c := by
        have h1 : ¬ k < c := fun g => hlt (by rw [HC.out] at g; have := (cnt_lt n3).1 g; rwa [← HP.out] at this)
        omega
      go_wp2
      go_ret
      exact ⟨rfl, HB.out⟩
end Go.Proofs.Ytgeplpigmjmfdaa
