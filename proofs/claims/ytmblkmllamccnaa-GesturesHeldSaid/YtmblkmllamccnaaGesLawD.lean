/- The walks of GesturesHeld and GesturesTrim (layer 12). -/
import Derived.Test.YtmblkmllamccnaaGesLawB
namespace Go.Proofs.Ytmblkmllamccnaa
open Go.ChangeShapes Go.WideShapes Go.ChangeAt Go.RowKit

theorem held_made {v p : Int} {g : Gt} (hg : okG g) (h1 : g.t - 1 ≤ p) (h2 : p < g.u) : made v g p = made v g (g.t - 1) := by
  obtain ⟨_, _, h4, h5, _⟩ := hg
  unfold made
  rw [if_pos ⟨by omega, h2⟩, if_pos ⟨by omega, by omega⟩]
  congr 2
  omega

set_option maxRecDepth 100000 in
set_option maxHeartbeats 8000000 in
theorem gesturesHeld_walk (v p : Int) (g : Gt) (w : World) (hG : GK w g) (v0 : (Lit.int .i64 v).wf = true) (p1 : -9223372036854775808 ≤ p) (p2 : p ≤ 9223372036854775807) :
    Calls Try.prog 8 #[.int .i64 v, encG g, .int .i64 p] w fun e w' => e = .returned (.bool true) ∧ Below w.heap.size w w' := by
  have HG := Lib.hid hG
  clear hG
  unfold encG
  go_enter Try.func8, Try.ntmps8
  have n0 := blk_new w (.cells #[.int .i64 g.m, .int .i64 g.f, .int .i64 g.t, .int .i64 g.u, .slice g.ka g.kn g.kc] 38)
  have hB0 := (Below.refl w.heap.size w).alloc (Nat.le_refl _) (.cells #[.int .i64 g.m, .int .i64 g.f, .int .i64 g.t, .int .i64 g.u, .slice g.ka g.kn g.kc] 38)
  have hs0 : (w.alloc (.cells #[.int .i64 g.m, .int .i64 g.f, .int .i64 g.t, .int .i64 g.u, .slice g.ka g.kn g.kc] 38)).heap.size = w.heap.size + 1 := by simp
  go_wp2_with fail
  generalize w.alloc (.cells #[.int .i64 g.m, .int .i64 g.f, .int .i64 g.t, .int .i64 g.u, .slice g.ka g.kn g.kc] 38) = W at *
  refine (sane_any _).mono ?_; rintro e w1 ⟨rfl, hb⟩
  have n1 := blk_below n0 hb (by omega)
  have hB1 := below_after hB0 hb (by omega)
  have x0 := blk_cell n1 0; have x1 := blk_cell n1 1; have x2 := blk_cell n1 2; have x3 := blk_cell n1 3; have x4 := blk_cell n1 4
  simp at x0 x1 x2 x3 x4
  have hw1 := (Array.getElem?_eq_some_iff.1 n1).1
  have HL := Lib.hid (show _ ∧ _ ∧ _ ∧ _ from ⟨Gs.lit1 w1 g (HG.out.grown hB1), blk_new w1 (.cells #[.int .i64 g.m, .int .i64 g.f, .int .i64 g.t, .int .i64 g.u, .slice g.ka g.kn g.kc] 38), hB1.alloc (by omega) (.cells #[.int .i64 g.m, .int .i64 g.f, .int .i64 g.t, .int .i64 g.u, .slice g.ka g.kn g.kc] 38), blk_alloc n1 (.cells #[.int .i64 g.m, .int .i64 g.f, .int .i64 g.t, .int .i64 g.u, .slice g.ka g.kn g.kc] 38)⟩)
  clear hb n0 hB0 n1 hB1
  go_wp2_with fail
  refine (rgfew_any _ _ _ 1 1 [g] _ HL.out.1 (by omega)).mono ?_; rintro e w' ⟨hF, rfl⟩
  clear x0 x1 x2 x3 x4
  rcases hF with rfl | ⟨rfl, _⟩
  · go_wp2
    go_ret
    exact ⟨rfl, HL.out.2.2.1⟩
  have hz2 : (w1.alloc (.cells #[.int .i64 g.m, .int .i64 g.f, .int .i64 g.t, .int .i64 g.u, .slice g.ka g.kn g.kc] 38)).heap.size = w1.heap.size + 1 := by simp
  generalize w1.alloc (.cells #[.int .i64 g.m, .int .i64 g.f, .int .i64 g.t, .int .i64 g.u, .slice g.ka g.kn g.kc] 38) = W2 at *
  by_cases hch : Ges [g]
  case neg =>
    have hc := chkG_no hch
    clear hch
    go_wp2_with fail
    refine (rgcheck_any _ _ _ 1 1 [g] _ HL.out.1 (by omega)).mono ?_; rintro e w3 ⟨rfl, hb⟩; rw [hc]
    have HB := Lib.hid (below_after HL.out.2.2.1 hb HL.out.2.2.1.size); clear hb hc
    go_wp2
    go_ret
    exact ⟨rfl, HB.out⟩
  have hc := chkG_yes hch
  have hg : okG g := hch.2 0 (by show 0 < 1; omega)
  have HC := Lib.hid hch
  clear hch
  go_wp2_with fail
  refine (rgcheck_any _ _ _ 1 1 [g] _ HL.out.1 (by omega)).mono ?_; rintro e w3 ⟨rfl, hb⟩; rw [hc]
  have n3 := blk_below HL.out.2.2.2 hb (by omega)
  have HL3 := Lib.hid (show _ ∧ _ ∧ _ ∧ _ from ⟨HL.out.1.grown hb, blk_below HL.out.2.1 hb (by omega), below_after HL.out.2.2.1 hb HL.out.2.2.1.size, n3⟩)
  have x0 := blk_cell n3 0
  simp at x0
  clear hb hc n3 HL
  by_cases hm : g.m = 2
  case neg =>
    go_wp2
    go_ret
    exact ⟨rfl, HL3.out.2.2.1⟩
  have hh1 := fun h1 h2 => held_made (v := v) (p := p) hg h1 h2
  have hh2 : made v g g.u = v := made_no (by omega)
  obtain ⟨_, k4, k5, k6, k7, _⟩ := hg
  have HH := Lib.hid (show _ ∧ _ ∧ _ from ⟨hh1, hh2, hm⟩)
  have hmb : (g.m == 2) = true := by simpa using hm
  have hmc : (g.m != 2) = false := by simpa using hm
  clear hh1 hh2 hm
  go_wp2_with fail
  refine (gvalue_any v p _ _ _ 1 1 [g] _ HL3.out.1 (fun _ => ⟨_, _, _, HL3.out.2.1⟩) (by omega) v0 p1 p2).mono ?_; rintro e w4 ⟨rfl, hb⟩
  rw [gvalV_yes HC.out, chkG_yes HC.out, allG_one]
  have n4 := blk_below HL3.out.2.2.2 hb (Array.getElem?_eq_some_iff.1 HL3.out.2.2.2).1
  have HL4 := Lib.hid (show _ ∧ _ ∧ _ ∧ _ from ⟨HL3.out.1.grown hb, blk_below HL3.out.2.1 hb (Array.getElem?_eq_some_iff.1 HL3.out.2.1).1, below_after HL3.out.2.2.1 hb HL3.out.2.2.1.size, n4⟩)
  clear x0
  have x2 := blk_cell n4 2
  simp at x2
  clear hb n4 HL3
  go_wp2_with fail
  refine (gvalue_any v (g.t - 1) _ _ _ 1 1 [g] _ HL4.out.1 (fun _ => ⟨_, _, _, HL4.out.2.1⟩) (by omega) v0 (by omega) (by omega)).mono ?_; rintro e w5 ⟨rfl, hb⟩
  rw [gvalV_yes HC.out, chkG_yes HC.out, allG_one]
  have n5 := blk_below HL4.out.2.2.2 hb (Array.getElem?_eq_some_iff.1 HL4.out.2.2.2).1
  have HL5 := Lib.hid (show _ ∧ _ ∧ _ ∧ _ from ⟨HL4.out.1.grown hb, blk_below HL4.out.2.1 hb (Array.getElem?_eq_some_iff.1 HL4.out.2.1).1, below_after HL4.out.2.2.1 hb HL4.out.2.2.1.size, n5⟩)
  clear x2
  have x3 := blk_cell n5 3
  simp at x3
  clear hb n5 HL4
  go_wp2_with fail
  refine (gvalue_any v g.u _ _ _ 1 1 [g] _ HL5.out.1 (fun _ => ⟨_, _, _, HL5.out.2.1⟩) (by omega) v0 (by omega) (by omega)).mono ?_; rintro e w6 ⟨rfl, hb⟩
  rw [gvalV_yes HC.out, chkG_yes HC.out, allG_one, HH.out.2.1]
  have n6 := blk_below HL5.out.2.2.2 hb (Array.getElem?_eq_some_iff.1 HL5.out.2.2.2).1
  have HB6 := Lib.hid (below_after HL5.out.2.2.1 hb HL5.out.2.2.1.size)
  clear x3
  have x2 := blk_cell n6 2; have x3 := blk_cell n6 3
  simp at x2 x3
  clear hb n6 HL5
  generalize made v g p = X at *
  generalize made v g (g.t - 1) = Y at *
  by_cases q1 : p < g.t - 1
  · go_wp2
    go_ret
    exact ⟨by simp, HB6.out⟩
  by_cases q2 : p < g.u
  · obtain rfl : X = Y := HH.out.1 (by omega) q2
    go_wp2
    go_ret
    exact ⟨by simp, HB6.out⟩
  · have q3 : g.u ≤ p := by omega
    go_wp2
    go_ret
    exact ⟨by simp, HB6.out⟩
end Go.Proofs.Ytmblkmllamccnaa
