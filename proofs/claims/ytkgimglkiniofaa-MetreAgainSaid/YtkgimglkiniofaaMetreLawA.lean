/- The walks of MetreInverse and MetreOrder (layer 10). -/
import Derived.Test.YtkgimglkiniofaaMetreSane
namespace Go.Proofs.Ytkgimglkiniofaa
open Go.ChangeShapes Go.WideShapes Go.ChangeAt Go.RowKit

theorem place_no_err {l : List Mt} {tick B b o r : Int} (h : PlaceRes l tick B b o r) : r = 0 ∨ r = 1 ∨ r = 70 ∨ r = 100 := by
  rcases h with ⟨_, _, _, _, h⟩ | ⟨_, _, _, _, _, h⟩ | ⟨_, _, hp⟩
  · omega
  · omega
  · rcases hp with ⟨_, _, _, _, h⟩ | ⟨_, _, _, _, h⟩ <;> omega

set_option maxHeartbeats 2000000 in
theorem metreInverse_walk (a : Option Addr) (b off len cap : Nat) (l : List Mt) (tick bar beat rest : Int) (w : World) (hM : Ms w a len b off l) (hn : len ≤ 9223372036854775807) (hb : 0 < len → ∃ c tb fr, w.heap[b]? = some (.cells c tb fr)) :
    Calls Try.prog 5 #[.slice a len cap, .int .i64 tick, .int .i64 bar, .int .i64 beat, .int .i64 rest] w fun e w' => e = .returned (.bool true) ∧ Below w.heap.size w w' := by
  have hblk : ∀ W, Below w.heap.size w W → 0 < len → ∃ c tb fr, W.heap[b]? = some (.cells c tb fr) := fun W hW h => by
    obtain ⟨c, tb, fr, h1⟩ := hb h
    exact ⟨c, tb, fr, blk_below h1 hW (Array.getElem?_eq_some_iff.1 h1).1⟩
  have HB := Lib.hid hblk
  have HM := Lib.hid hM
  clear hblk hb hM
  go_enter Try.func5, Try.ntmps5
  go_wp2_with fail
  refine (sane_any w).mono ?_; rintro e w1 ⟨rfl, hB⟩
  by_cases hf : (len : Int) ≤ 100
  case neg =>
    have hf2 : (100 : Int) < (len : Int) := by omega
    go_wp2
    go_ret
    exact ⟨rfl, hB⟩
  have hf2 : ¬ (100 : Int) < (len : Int) := by omega
  go_wp2_with fail
  refine (place_any a b off len cap l tick _ (HM.out.grown hB) hn (HB.out _ hB)).mono ?_; rintro e w2 ⟨hb, B, bt, o, r, hP, rfl⟩
  replace hB := below_after hB hb hB.size
  clear hb
  have hsecond : ∀ W, Below w.heap.size w W → True := fun _ _ => trivial
  clear hsecond
  by_cases hr : r = 0
  · subst hr
    obtain ⟨hch, h0, h1, k, hS⟩ := place_ok hP
    obtain ⟨hBar, hAt⟩ := spot_bar hch hS
    go_wp2_with fail
    refine (tick_any a b off len cap l B bt o _ (HM.out.grown hB) hn (HB.out _ hB)).mono ?_; rintro e w3 ⟨hb, t, r, hT, rfl⟩
    replace hB := below_after hB hb hB.size
    clear hb
    obtain ⟨rfl, rfl⟩ : r = 0 ∧ t = tick := by
      rcases tick_of hch hBar hT with ⟨_, h2, h3⟩ | ⟨h2, _, _⟩
      · exact ⟨h2, h3.trans hAt⟩
      · omega
    have HH := Lib.hid (show _ ∧ _ from ⟨hS, hBar⟩)
    clear hS hBar hT hP hAt
    go_wp2_with fail
    refine (tick_any a b off len cap l bar beat rest _ (HM.out.grown hB) hn (HB.out _ hB)).mono ?_; rintro e w5 ⟨hb, t, r2, hT, rfl⟩
    replace hB := below_after hB hb hB.size
    clear hb
    rcases tick_ok hT with ⟨rfl, hc2, k2, hBar2, ht, ht2⟩ | ⟨hr2, rfl⟩
    · have hI := tickAt_in hc2 hBar2
      rw [← ht] at hI
      have t0 : 0 ≤ t := by have := tickOf_bd hc2 k2 (by have := hBar2.1; omega); omega
      have HTT := Lib.hid (show _ ∧ _ ∧ _ from ⟨hc2, hBar2, hI⟩)
      clear hT hc2 hBar2 hI ht
      go_wp2_with fail
      refine (place_any a b off len cap l t _ (HM.out.grown hB) hn (HB.out _ hB)).mono ?_; rintro e w6 ⟨hb, B2, bt2, o2, r3, hP2, rfl⟩
      replace hB := below_after hB hb hB.size
      clear hb
      obtain ⟨rfl, rfl, rfl, rfl⟩ : r3 = 0 ∧ B2 = bar ∧ bt2 = beat ∧ o2 = rest := by
        obtain ⟨hr3, _, _, _, q1, q2, q3⟩ := place_of HTT.out.1 t0 ht2 HTT.out.2.1.1 HTT.out.2.2.1 HTT.out.2.2.2.1 hP2
        rw [HTT.out.2.2.2.2.1, HTT.out.2.2.2.2.2.2.1] at q1
        rw [HTT.out.2.2.2.2.1, HTT.out.2.2.2.2.2.2.2] at q2
        rw [HTT.out.2.2.2.2.2.1] at q3
        exact ⟨hr3, by omega, q2, q3⟩
      clear hP2
      have y1 : decide (t < 0) = false := decide_eq_false (by omega)
      have y2 : decide (0 ≤ t) = true := decide_eq_true t0
      have y3 : decide (t ≤ 16777216) = true := decide_eq_true ht2
      go_wp2
      go_ret
      exact ⟨ret_bool (by simp), hB⟩
    · have y1 : (r2 == 0) = false := by simpa using hr2
      have y2 : (r2 != 0) = true := by simpa using hr2
      clear hT
      go_wp2
      go_ret
      exact ⟨rfl, hB⟩
  · have y0 : (r == 0) = false := by simpa using hr
    have y0' : (r != 0) = true := by simpa using hr
    clear hP
    go_wp2_with fail
    refine (tick_any a b off len cap l bar beat rest _ (HM.out.grown hB) hn (HB.out _ hB)).mono ?_; rintro e w5 ⟨hb, t, r2, hT, rfl⟩
    replace hB := below_after hB hb hB.size
    clear hb
    rcases tick_ok hT with ⟨rfl, hc2, k2, hBar2, ht, ht2⟩ | ⟨hr2, rfl⟩
    · have hI := tickAt_in hc2 hBar2
      rw [← ht] at hI
      have t0 : 0 ≤ t := by have := tickOf_bd hc2 k2 (by have := hBar2.1; omega); omega
      have HTT := Lib.hid (show _ ∧ _ ∧ _ from ⟨hc2, hBar2, hI⟩)
      clear hT hc2 hBar2 hI ht
      go_wp2_with fail
      refine (place_any a b off len cap l t _ (HM.out.grown hB) hn (HB.out _ hB)).mono ?_; rintro e w6 ⟨hb, B2, bt2, o2, r3, hP2, rfl⟩
      replace hB := below_after hB hb hB.size
      clear hb
      obtain ⟨rfl, rfl, rfl, rfl⟩ : r3 = 0 ∧ B2 = bar ∧ bt2 = beat ∧ o2 = rest := by
        obtain ⟨hr3, _, _, _, q1, q2, q3⟩ := place_of HTT.out.1 t0 ht2 HTT.out.2.1.1 HTT.out.2.2.1 HTT.out.2.2.2.1 hP2
        rw [HTT.out.2.2.2.2.1, HTT.out.2.2.2.2.2.2.1] at q1
        rw [HTT.out.2.2.2.2.1, HTT.out.2.2.2.2.2.2.2] at q2
        rw [HTT.out.2.2.2.2.2.1] at q3
        exact ⟨hr3, by omega, q2, q3⟩
      clear hP2
      have y1 : decide (t < 0) = false := decide_eq_false (by omega)
      have y2 : decide (0 ≤ t) = true := decide_eq_true t0
      have y3 : decide (t ≤ 16777216) = true := decide_eq_true ht2
      go_wp2
      go_ret
      exact ⟨ret_bool (by simp), hB⟩
    · have y1 : (r2 == 0) = false := by simpa using hr2
      have y2 : (r2 != 0) = true := by simpa using hr2
      clear hT
      go_wp2
      go_ret
      exact ⟨rfl, hB⟩
end Go.Proofs.Ytkgimglkiniofaa
