/- The contract of curves.Check (layer 11). -/
import Derived.Test.YtmblkmllamccnaaCrvValid
namespace Go.Proofs.Ytmblkmllamccnaa
open Go.ChangeShapes Go.WideShapes Go.ChangeAt Go.RowKit

noncomputable def chkC (l : List Kt) : Int := by classical exact if Curve l then 0 else 110
theorem chkC_yes {l : List Kt} (h : Curve l) : chkC l = 0 := if_pos h
theorem chkC_no {l : List Kt} (h : ¬ Curve l) : chkC l = 110 := if_neg h

set_option maxRecDepth 100000 in
set_option maxHeartbeats 8000000 in
theorem ccheck_any (a : Option Addr) (b off n cap : Nat) (l : List Kt) (w : World) (h : Ks w a n b off l) (hn : n ≤ 9223372036854775807) (hnc : a = none → cap = 0) (hlc : n ≤ cap) :
    Calls Try.prog 30 #[.slice a n cap] w fun e w' => e = .returned (.int .i64 (chkC l)) ∧ Below w.heap.size w w' := by
  have hl := h.1
  have HK := Lib.hid h
  clear h
  by_cases hv : Lane 1099511627776 l
  case neg =>
    have e := chkC_no (l := l) fun g => hv g.1
    have ev := laneB_f hv
    have HE := Lib.hid (show _ ∧ _ from ⟨e, ev⟩)
    clear hv e ev
    go_enter Try.func30, Try.ntmps30
    go_wp2_with fail
    refine (valid_any a b off n cap l _ _ HK.out hn).mono ?_; rintro e w1 ⟨rfl, hB⟩
    rw [HE.out.2]
    go_wp2
    go_ret
    exact ⟨by rw [HE.out.1]; rfl, hB⟩
  have ev := laneB_t hv
  have hn2 : n ≤ 1024 := by rw [← hl]; exact hv.1
  have HV := Lib.hid (show _ ∧ _ from ⟨hv, ev⟩)
  clear hv ev
  rcases Nat.eq_zero_or_pos n with hn0 | hn0
  · subst hn0
    have e := chkC_yes (l := l) ⟨HV.out.1, fun i hi => by omega⟩
    have HE := Lib.hid e
    clear e
    go_enter Try.func30, Try.ntmps30
    go_wp2_with fail
    refine (valid_any _ b off 0 cap l _ _ HK.out hn).mono ?_; rintro e w1 ⟨rfl, hB⟩
    rw [HV.out.2]
    go_wp2_with (go_at_call 39; refine (shapes_any _).mono ?_; rintro e w2 ⟨rfl, hb⟩; unfold tabV tabC)
    have htab := blk_new w2 (.cells tabC 76)
    have hB2 := below_after hB hb hB.size
    have hb1 := hB2.alloc hB2.size (.cells tabC 76)
    unfold tabC at htab
    have HT := Lib.hid (show _ ∧ _ from ⟨htab, hb1⟩)
    have hs0 := hB2.size
    clear htab hb1 hb hB hB2
    go_loopw [17] (fun i wr => i = .int .i64 0 ∧ Below w.heap.size w wr) (fun _ _ => 0)
    case atStart => exact ⟨rfl, HT.out.2⟩
    case round =>
      obtain ⟨rfl, hB3⟩ := hrel
      go_wp2
      go_ret
      exact ⟨by rw [HE.out]; rfl, hB3⟩
  · obtain ⟨m, rfl⟩ : ∃ m, n = m + 1 := ⟨n - 1, by omega⟩
    obtain ⟨rfl, hbw⟩ := HK.out.2.1 (by omega)
    rcases Nat.eq_zero_or_pos m with hm0 | hm0
    · subst hm0
      have e := chkC_yes (l := l) ⟨HV.out.1, fun i hi => by omega⟩
      have HE := Lib.hid e
      clear e
      go_enter Try.func30, Try.ntmps30
      go_wp2_with fail
      refine (valid_any _ b off (0 + 1) cap l _ _ HK.out hn).mono ?_; rintro e w1 ⟨rfl, hB⟩
      rw [HV.out.2]
      go_wp2_with (go_at_call 39; refine (shapes_any _).mono ?_; rintro e w2 ⟨rfl, hb⟩; unfold tabV tabC)
      have htab := blk_new w2 (.cells tabC 76)
      have hB2 := below_after hB hb hB.size
      have hb1 := hB2.alloc hB2.size (.cells tabC 76)
      unfold tabC at htab
      have HT := Lib.hid (show _ ∧ _ from ⟨htab, hb1⟩)
      have hs0 := hB2.size
      clear htab hb1 hb hB hB2
      go_loopw [17] (fun i wr => i = .int .i64 0 ∧ Below w.heap.size w wr) (fun _ _ => 0)
      case atStart => exact ⟨rfl, HT.out.2⟩
      case round =>
        obtain ⟨rfl, hB3⟩ := hrel
        go_wp2
        go_ret
        exact ⟨by rw [HE.out]; rfl, hB3⟩
    · have em : IntKind.i64.wrap (((m + 1 : Nat) : Int) - 1) = (m : Int) := by rw [wrap_id (by omega)]; omega
      have hm1 : ¬ (m : Int) ≤ 0 := by omega
      go_enter Try.func30, Try.ntmps30
      go_wp2_with fail
      refine (valid_any _ b off (m + 1) cap l _ _ HK.out hn).mono ?_; rintro e w1 ⟨rfl, hB⟩
      rw [HV.out.2]
      go_wp2_with (go_at_call 39; refine (shapes_any _).mono ?_; rintro e w2 ⟨rfl, hb⟩; unfold tabV tabC)
      have htab := blk_new w2 (.cells tabC 76)
      have hB2 := below_after hB hb hB.size
      have hb1 := hB2.alloc hB2.size (.cells tabC 76)
      unfold tabC at htab
      have HT := Lib.hid (show _ ∧ _ from ⟨htab, hb1⟩)
      have hs0 := hB2.size
      clear htab hb1 hb hB hB2
      go_loopw [17] (fun i wr => ∃ k : Nat, k ≤ m ∧ i = .int .i64 k ∧ (∀ j, j < k → (nthK l j).2.2.1 ≠ 1 → (nthK l (j + 1)).1 - (nthK l j).1 ≤ 16777216) ∧ wr.heap[w2.heap.size]? = some (.cells tabC 76 (0, 0)) ∧ Below w.heap.size w wr) (fun i _ => m - (intOf i).toNat)
      case atStart => exact ⟨0, Nat.zero_le _, rfl, fun j hj => by omega, HT.out.1, HT.out.2⟩
      case round =>
        obtain ⟨k, hk, rfl, hok, htab, hb⟩ := hrel
        clear HT
        by_cases hlt : k < m
        case neg =>
          obtain rfl : k = m := by omega
          have EB := Lib.hid (chkC_yes (l := l) ⟨HV.out.1, fun i hi => hok i (by omega)⟩)
          clear hok htab
          go_wp2
          go_ret
          exact ⟨by rw [EB.out]; rfl, hb⟩
        obtain ⟨c0, c1, c2, c3, c4⟩ := (HK.out.grown hb).2.2 k (by omega)
        obtain ⟨d0, _, _, _, _⟩ := (HK.out.grown hb).2.2 (k + 1) (by omega)
        have hz := hb.size
        have hbad : (nthK l k).2.2.1 ≠ 1 → ¬ (nthK l (k + 1)).1 - (nthK l k).1 ≤ 16777216 → chkC l = 110 := fun h1 hx => chkC_no fun g => hx (g.2 k (by omega) h1)
        have ok1 := (HV.out.1.2 k (by omega)).1
        have ok2 := (HV.out.1.2 (k + 1) (by omega)).1
        have t1 : wr.cell? ⟨w2.heap.size, 4, none⟩ = some (.bool false) := by rw [blk_cell htab]; rfl
        have t2 : ∀ s : Nat, s = 2 ∨ s = 3 → wr.cell? ⟨w2.heap.size, s * 3 + 1, none⟩ = some (.bool true) := fun s hs => by
          rw [blk_cell htab]
          rcases hs with e | e <;> subst e <;> rfl
        have hb2 := hb.alloc hz (.cells #[.int .i64 (nthK l k).1, .int .i64 (nthK l k).2.1, .int .i64 (nthK l k).2.2.1, .int .i64 (nthK l k).2.2.2.1, .int .i64 (nthK l k).2.2.2.2] 52)
        have uk : IntKind.i64.wrap ((k : Int) + 1) = (k : Int) + 1 := wrap_id (by omega)
        have i2 : (k : Int) < (m : Int) := by omega
        have i3 : (k : Int) + 1 < (m : Int) + 1 := by omega
        have hr1 : w2.heap.size < wr.heap.size := (Array.getElem?_eq_some_iff.1 htab).1
        have hbr : b < wr.heap.size := Nat.lt_of_lt_of_le hbw hz
        have HO := Lib.hid (show _ ∧ _ ∧ _ from ⟨hok, hbad, htab⟩)
        clear hok hbad htab hb
        generalize hx : nthK l k = x at *
        obtain ⟨tA, V, S, A, B⟩ := x
        generalize hy : (nthK l (k + 1)).1 = tB at *
        have HX := Lib.hid (show _ ∧ _ from ⟨hx, hy⟩)
        clear hx hy
        have o1 := ok1.1; have o2 := ok1.2.1; have o3 := ok2.1; have o4 := ok2.2.1; have o5 := ok1.2.2.2.2.1; have o6 := ok1.2.2.2.2.2.1
        clear ok1 ok2
        dsimp only at c0 c1 c2 c3 c4 hb2 o1 o2 o5 o6
        rw [HX.out.2] at o3 o4
        have us : IntKind.i64.wrap (tB - tA) = tB - tA := wrap_id (by omega)
        by_cases q1 : S = 1
        · subst q1
          clear t2
          go_wp2
          go_quiet (fail)
          go_wp2
          go_roundw
          case rel => exact ⟨k + 1, by omega, by go_num, fun j hj h => by
            by_cases e : j = k
            · subst e; rw [HX.out.1] at h; exact absurd rfl h
            · exact HO.out.1 j (by omega) h, blk_alloc HO.out.2.2 _, below_drewN hb2 _⟩
          case measure => simp [intOf] <;> omega
        · obtain ⟨s, rfl⟩ : ∃ s : Nat, S = (s : Int) := ⟨S.toNat, by omega⟩
          have ts := t2 s (by omega)
          have is : (s : Int) < 4 := by omega
          have is2 : s < 4 := by omega
          clear t2 t1
          by_cases q2 : tB - tA ≤ 16777216
          · have dq : decide (16777216 < tB - tA) = false := decide_eq_false (by omega)
            go_wp2
            go_quiet (fail)
            go_wp2
            go_roundw
            case rel => exact ⟨k + 1, by omega, by go_num, fun j hj h => by
              by_cases e : j = k
              · subst e; rw [HX.out.1, HX.out.2]; exact q2
              · exact HO.out.1 j (by omega) h, blk_alloc HO.out.2.2 _, below_drewN hb2 _⟩
            case measure => simp [intOf] <;> omega
          · have dq : decide (16777216 < tB - tA) = true := decide_eq_true (by omega)
            have EB := Lib.hid (HO.out.2.1 q1 q2)
            clear q2
            go_wp2
            go_quiet (fail)
            go_wp2
            go_ret
            exact ⟨by rw [EB.out]; rfl, below_drewN hb2 _⟩
end Go.Proofs.Ytmblkmllamccnaa
