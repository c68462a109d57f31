/- The walks of GesturesSpec and GesturesValuesSpec (layer 12). -/
import Derived.Test.YtmblkmllamccnaaGesSane
namespace Go.Proofs.Ytmblkmllamccnaa
open Go.ChangeShapes Go.WideShapes Go.ChangeAt Go.RowKit

set_option maxHeartbeats 4000000 in
theorem gesturesSpec_walk (v p : Int) (a : Option Addr) (b off n cap : Nat) (l : List Gt) (w : World) (hM : Gs w a n b off l) (hbM : 0 < n → ∃ c tb fr, w.heap[b]? = some (.cells c tb fr)) (hn : n ≤ 9223372036854775807) (v0 : (Lit.int .i64 v).wf = true) (p1 : -9223372036854775808 ≤ p) (p2 : p ≤ 9223372036854775807) :
    Calls Try.prog 3 #[.int .i64 v, .slice a n cap, .int .i64 p] w fun e w' => e = .returned (.bool true) ∧ Below w.heap.size w w' := by
  have hbb : 0 < n → b < w.heap.size := fun h0 => (hM.2.1 h0).2
  have HM := Lib.hid (show _ ∧ _ from ⟨hM, hbM⟩)
  have bv := bounds_i64 v0
  have hbk : ∀ w', Below w.heap.size w w' → 0 < n → ∃ c tb fr, w'.heap[b]? = some (.cells c tb fr) := fun w' hb h0 => by
    obtain ⟨c, tb, fr, h1⟩ := HM.out.2 h0
    exact ⟨c, tb, fr, blk_below h1 hb (hbb h0)⟩
  have HBK := Lib.hid hbk
  clear hM hbM hbk
  go_enter Try.func3, Try.ntmps3
  go_wp2_with fail
  refine (sane_any _).mono ?_; rintro e w1 ⟨rfl, hB1⟩
  go_wp2_with fail
  refine (rgfew_any a b off n cap l _ (HM.out.1.grown hB1) hn).mono ?_; rintro e w' ⟨hF, rfl⟩
  rcases hF with rfl | ⟨rfl, _⟩
  · go_wp2
    go_ret
    exact ⟨rfl, hB1⟩
  have HB1 := Lib.hid hB1; clear hB1
  go_wp2_with fail
  refine (gvalue_any v p a b off n cap l _ (HM.out.1.grown HB1.out) (HBK.out _ HB1.out) hn v0 p1 p2).mono ?_; rintro e w2 ⟨rfl, hb⟩
  have HB2 := Lib.hid (below_after HB1.out hb HB1.out.size); clear hb
  go_wp2_with fail
  refine (rgvalue_any v p a b off n cap l _ (HM.out.1.grown HB2.out) hn bv.1 bv.2).mono ?_; rintro e w3 ⟨rfl, hb⟩
  have HB3 := Lib.hid (below_after HB2.out hb HB2.out.size); clear hb
  go_wp2_with fail
  refine (gcheck_any a b off n cap l _ (HM.out.1.grown HB3.out) hn).mono ?_; rintro e w4 ⟨rfl, hb⟩
  have HB4 := Lib.hid (below_after HB3.out hb HB3.out.size); clear hb
  go_wp2_with fail
  refine (rgcheck_any a b off n cap l _ (HM.out.1.grown HB4.out) hn).mono ?_; rintro e w5 ⟨rfl, hb⟩
  have HB5 := Lib.hid (below_after HB4.out hb HB4.out.size); clear hb
  generalize gvalV l v p = x
  generalize chkG l = y
  go_wp2
  go_ret
  exact ⟨by simp, HB5.out⟩

set_option maxHeartbeats 4000000 in
theorem gesturesValuesSpec_walk (sa : Option Addr) (sb soff sn scap : Nat) (base : List Int) (f : Int) (a : Option Addr) (b off n cap : Nat) (l : List Gt) (w : World) (hR : Row w sa sb soff sn base) (hsn : sn ≤ 9223372036854775807) (hsc : sa = none → scap = 0) (hw : ∀ x ∈ base, (Lit.int .i64 x).wf = true) (hM : Gs w a n b off l) (hbM : 0 < n → ∃ c tb fr, w.heap[b]? = some (.cells c tb fr)) (hn : n ≤ 9223372036854775807)
    (f1 : -9223372036854775808 ≤ f) (f2 : f ≤ 9223372036854775807) :
    Calls Try.prog 4 #[.slice sa sn scap, .int .i64 f, .slice a n cap] w fun e w' => e = .returned (.bool true) ∧ Below w.heap.size w w' := by
  have hbb : 0 < n → b < w.heap.size := fun h0 => (hM.2.1 h0).2
  have HM := Lib.hid (show _ ∧ _ ∧ _ ∧ _ from ⟨hM, hbM, hR, hw⟩)
  have hbk : ∀ w', Below w.heap.size w w' → 0 < n → ∃ c tb fr, w'.heap[b]? = some (.cells c tb fr) := fun w' hb h0 => by
    obtain ⟨c, tb, fr, h1⟩ := HM.out.2.1 h0
    exact ⟨c, tb, fr, blk_below h1 hb (hbb h0)⟩
  have HBK := Lib.hid hbk
  clear hM hbM hbk hR hw
  go_enter Try.func4, Try.ntmps4
  go_wp2_with fail
  refine (sane_any _).mono ?_; rintro e w1 ⟨rfl, hB1⟩
  go_wp2_with fail
  refine (rgfew_any a b off n cap l _ (HM.out.1.grown hB1) hn).mono ?_; rintro e w' ⟨hF, rfl⟩
  rcases hF with rfl | ⟨rfl, _⟩
  · go_wp2
    go_ret
    exact ⟨rfl, hB1⟩
  have HB1 := Lib.hid hB1; clear hB1
  by_cases h100 : sn ≤ 100
  case neg =>
    have d : decide ((100 : Int) < (sn : Int)) = true := decide_eq_true (by omega)
    go_wp2
    go_ret
    exact ⟨rfl, HB1.out⟩
  have d : decide ((100 : Int) < (sn : Int)) = false := decide_eq_false (by omega)
  go_wp2_with fail
  refine (gvalues_any sa sb soff sn scap base f a b off n cap l _ (HM.out.2.2.1.below HB1.out (Nat.le_refl _)) hsn hsc HM.out.2.2.2 (HM.out.1.grown HB1.out) (HBK.out _ HB1.out) hn f1 f2).mono ?_; rintro e w2 ⟨hV, hb⟩
  have HB2 := Lib.hid (below_after HB1.out hb HB1.out.size); clear hb
  rcases hV with ⟨hG, rfl⟩ | ⟨hG, hx, rfl⟩ | ⟨hG, hx, v, rfl, hI⟩
  · have HG := Lib.hid hG; clear hG
    go_wp2_with fail
    refine (rgvalues_any sa sb soff sn scap base f a b off n cap l _ (HM.out.2.2.1.below HB2.out (Nat.le_refl _)) hsn HM.out.2.2.2 (HM.out.1.grown HB2.out) hn f1 f2).mono ?_; rintro e w3 ⟨hV, hb⟩
    have HB3 := Lib.hid (below_after HB2.out hb HB2.out.size); clear hb
    rcases hV with ⟨_, rfl⟩ | ⟨h, _⟩ | ⟨h, _⟩
    · go_wp2_with fail
      refine (same_true none none 0 0 0 0 0 0 0 0 [] [] _ ⟨rfl, fun h => by omega, fun h => by omega, fun i hi => by omega⟩ ⟨rfl, fun h => by omega, fun h => by omega, fun i hi => by omega⟩ (by omega) rfl).mono ?_; rintro e w4 ⟨rfl, hb⟩
      have HB4 := Lib.hid (below_after HB3.out hb HB3.out.size); clear hb
      go_wp2
      go_ret
      exact ⟨rfl, HB4.out⟩
    · exact absurd h HG.out
    · exact absurd h HG.out
  · omega
  · have HG := Lib.hid hG; clear hG
    obtain ⟨av, bv, cv, hv, hr, _, _⟩ := hI.row
    rw [gvals_len] at hv hr
    subst hv
    have HI := Lib.hid hr
    clear hI hr
    go_wp2_with fail
    refine (rgvalues_any sa sb soff sn scap base f a b off n cap l _ (HM.out.2.2.1.below HB2.out (Nat.le_refl _)) hsn HM.out.2.2.2 (HM.out.1.grown HB2.out) hn f1 f2).mono ?_; rintro e w3 ⟨hV, hb⟩
    have HB3 := Lib.hid (below_after HB2.out hb HB2.out.size)
    replace HI := Lib.hid (HI.out.below hb (Nat.le_refl _)); clear hb
    rcases hV with ⟨h, _⟩ | ⟨_, hx2, _⟩ | ⟨_, _, v2, rfl, hI2⟩
    · exact absurd HG.out h
    · omega
    · obtain ⟨av2, bv2, cv2, hv2, hr2, _, _⟩ := hI2.row
      rw [gvals_len] at hv2 hr2
      subst hv2
      have HI2 := Lib.hid hr2
      clear hI2 hr2
      go_wp2_with fail
      refine (same_true av av2 _ _ _ _ sn sn _ _ _ _ _ HI.out HI2.out (by omega) rfl).mono ?_; rintro e w4 ⟨rfl, hb⟩
      have HB4 := Lib.hid (below_after HB3.out hb HB3.out.size); clear hb
      go_wp2
      go_ret
      exact ⟨rfl, HB4.out⟩
end Go.Proofs.Ytmblkmllamccnaa
