/- The reference's Check of curves (layer 11). -/
import Derived.Test.YtmblkmllamccnaaCrvRList
namespace Go.Proofs.Ytmblkmllamccnaa
open Go.ChangeShapes Go.WideShapes Go.ChangeAt Go.RowKit Go.Shelf

set_option maxRecDepth 100000 in
set_option maxHeartbeats 8000000 in
theorem rccheck_any (a : Option Addr) (b off n cap : Nat) (l : List Kt) (w : World) (h : Ks w a n b off l) (hn : n ≤ 9223372036854775807) :
    Calls Try.prog 31 #[.slice a n cap] w fun e w' => e = .returned (.int .i64 (chkC l)) ∧ Below w.heap.size w w' := by
  have hl := h.1
  have HK := Lib.hid h
  clear h
  by_cases hv : Lane 1099511627776 l
  case neg =>
    have e := chkC_no (l := l) fun g => hv g.1
    have ev := laneB_f hv
    have HE := Lib.hid (show _ ∧ _ from ⟨e, ev⟩)
    clear hv e ev
    go_enter Try.func31, Try.ntmps31
    go_wp2_with fail
    refine (rlist_any a b off n cap l _ _ HK.out hn).mono ?_; rintro e w1 ⟨rfl, hB⟩
    rw [HE.out.2]
    go_wp2
    go_ret
    exact ⟨by rw [HE.out.1]; rfl, hB⟩
  have ev := laneB_t hv
  have hn2 : n ≤ 1024 := by rw [← hl]; exact hv.1
  have HV := Lib.hid (show _ ∧ _ from ⟨hv, ev⟩)
  clear hv ev
  go_enter Try.func31, Try.ntmps31
  go_wp2_with fail
  refine (rlist_any a b off n cap l _ _ HK.out hn).mono ?_; rintro e w1 ⟨rfl, hB⟩
  rw [HV.out.2]
  have HB1 := Lib.hid hB
  clear hB
  go_wp2
  go_loopw [3] (fun i wr => ∃ k : Nat, 1 ≤ k ∧ k ≤ 1025 ∧ i = .int .i64 k ∧ (∀ j, j + 1 < k → j + 1 < n → (nthK l j).2.2.1 ≠ 1 → (nthK l (j + 1)).1 - (nthK l j).1 ≤ 16777216) ∧ Below w.heap.size w wr) (fun i _ => n - (intOf i).toNat)
  case atStart => exact ⟨1, by omega, by omega, rfl, fun j h => by omega, HB1.out⟩
  case round =>
    obtain ⟨k, hk, hk2, rfl, hok, hB⟩ := hrel
    clear HB1
    by_cases hlt : k < n
    case neg =>
      have EB := Lib.hid (chkC_yes (l := l) ⟨HV.out.1, fun i hi h => hok i (by omega) (by omega) h⟩)
      have z : ¬ (k : Int) < (n : Int) := by omega
      clear hok
      go_wp2
      go_ret
      exact ⟨by rw [EB.out]; rfl, hB⟩
    obtain ⟨j, rfl⟩ : ∃ j, k = j + 1 := ⟨k - 1, by omega⟩
    obtain ⟨rfl, hbw⟩ := HK.out.2.1 (by omega)
    obtain ⟨c0, _, c2, _, _⟩ := (HK.out.grown hB).2.2 j (by omega)
    obtain ⟨d0, _, _, _, _⟩ := (HK.out.grown hB).2.2 (j + 1) hlt
    have ok1 := (HV.out.1.2 j (by omega)).1
    have ok2 := (HV.out.1.2 (j + 1) (by omega)).1
    have o1 := ok1.1; have o2 := ok1.2.1; have o3 := ok2.1; have o4 := ok2.2.1
    have ej : IntKind.i64.wrap (((j + 1 : Nat) : Int) - 1) = (j : Int) := by rw [wrap_id (by omega)]; omega
    have ej2 : IntKind.i64.wrap (j : Int) = (j : Int) := wrap_id (by omega)
    have uk : IntKind.i64.wrap (((j + 1 : Nat) : Int) + 1) = ((j + 1 : Nat) : Int) + 1 := wrap_id (by omega)
    have us : IntKind.i64.wrap ((nthK l (j + 1)).1 - (nthK l j).1) = (nthK l (j + 1)).1 - (nthK l j).1 := wrap_id (by omega)
    have i3 : (j : Int) < (n : Int) := by omega
    have i4 : j < n := by omega
    have i5 : (j : Int) + 1 < (n : Int) := by omega
    have HO := Lib.hid (show _ ∧ _ from ⟨hok, hB⟩)
    clear hok hB ok1 ok2
    by_cases q1 : (nthK l j).2.2.1 = 1
    · have z1 : ((nthK l j).2.2.1 != 1) = false := by simp [q1]
      have HQ := Lib.hid q1
      clear q1
      go_wp2
      go_quiet (fail)
      go_wp2
      go_roundw
      case rel => exact ⟨j + 1 + 1, by omega, by omega, by go_num, fun i h1 h2 h3 => by
        by_cases e : i = j
        · subst e; exact absurd HQ.out h3
        · exact HO.out.1 i (by omega) h2 h3, below_drewN HO.out.2 _⟩
      case measure => simp [intOf] <;> omega
    · have z1 : ((nthK l j).2.2.1 != 1) = true := by simp [q1]
      by_cases q2 : (nthK l (j + 1)).1 - (nthK l j).1 ≤ 16777216
      · have d2 : decide (16777216 < (nthK l (j + 1)).1 - (nthK l j).1) = false := decide_eq_false (by omega)
        have HQ := Lib.hid q2
        clear q1 q2
        go_wp2
        go_quiet (fail)
        go_wp2
        go_roundw
        case rel => exact ⟨j + 1 + 1, by omega, by omega, by go_num, fun i h1 h2 h3 => by
          by_cases e : i = j
          · subst e; exact HQ.out
          · exact HO.out.1 i (by omega) h2 h3, below_drewN HO.out.2 _⟩
        case measure => simp [intOf] <;> omega
      · have d2 : decide (16777216 < (nthK l (j + 1)).1 - (nthK l j).1) = true := decide_eq_true (by omega)
        have EB := Lib.hid (chkC_no (l := l) fun g => q2 (g.2 j (by omega) q1))
        clear q1 q2
        go_wp2
        go_quiet (fail)
        go_wp2
        go_ret
        exact ⟨by rw [EB.out]; rfl, below_drewN HO.out.2 _⟩
end Go.Proofs.Ytmblkmllamccnaa
