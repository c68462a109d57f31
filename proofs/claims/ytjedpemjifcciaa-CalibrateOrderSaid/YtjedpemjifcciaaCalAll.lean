/- Changed, whatever is asked (layer 42). -/
import Derived.Test.YtjedpemjifcciaaCalRChg
import Derived.Test.YtjedpemjifcciaaCalChg
namespace Go.Proofs.Ytjedpemjifcciaa
open Go.ChangeShapes Go.WideShapes Go.ChangeAt Go.RowKit Go.Sort Go.Shelf

def tOk (k : Int) : Prop := 0 ≤ k ∧ k ≤ 16777216
instance (k : Int) : Decidable (tOk k) := by unfold tOk; infer_instance
noncomputable def chgC (l : List Rt) (bef aft : Int) : Int := by classical exact if Recs l then (if tOk bef ∧ tOk aft then 0 else 1) else chkR l
noncomputable def chgL (l : List Rt) (bef aft : Int) : List Yt := by classical exact if Recs l ∧ tOk bef ∧ tOk aft then chTo l bef aft 16 else []
theorem chgC_no {l : List Rt} {bef aft : Int} (h : ¬ Recs l) : chgC l bef aft = chkR l := if_neg h
theorem chgC_ok {l : List Rt} {bef aft : Int} (h : Recs l) (h2 : tOk bef) (h3 : tOk aft) : chgC l bef aft = 0 := by unfold chgC; rw [if_pos h, if_pos ⟨h2, h3⟩]
theorem chgC_arg {l : List Rt} {bef aft : Int} (h : Recs l) (h2 : ¬ (tOk bef ∧ tOk aft)) : chgC l bef aft = 1 := by unfold chgC; rw [if_pos h, if_neg h2]
theorem chgL_ok {l : List Rt} {bef aft : Int} (h : Recs l) (h2 : tOk bef) (h3 : tOk aft) : chgL l bef aft = chTo l bef aft 16 := if_pos ⟨h, h2, h3⟩
theorem chgL_no {l : List Rt} {bef aft : Int} (h : ¬ (Recs l ∧ tOk bef ∧ tOk aft)) : chgL l bef aft = [] := if_neg h
theorem chg_err {l : List Rt} {bef aft : Int} (h : chgC l bef aft ≠ 0) : chgL l bef aft = [] := chgL_no fun g => h (chgC_ok g.1 g.2.1 g.2.2)
def ChgP (l : List Rt) (bef aft : Int) (B : Nat) (w : World) (e : Ending) (w' : World) : Prop := ∃ v, e = .returned (.tuple #[v, .int .i64 (chgC l bef aft)]) ∧ YsO w' B v (chgL l bef aft) ∧ Below B w w'
theorem ChgP.err {l : List Rt} {bef aft : Int} {B : Nat} {w w' : World} {c : Int} (h : chgC l bef aft = c) (hc : c ≠ 0) (hb : Below B w w') : ChgP l bef aft B w (.returned (.tuple #[.slice none 0 0, .int .i64 c])) w' :=
  ⟨_, by rw [h], by rw [chg_err (by rw [h]; exact hc)]; exact YsO.nil _ _, hb⟩

set_option maxRecDepth 100000 in
set_option maxHeartbeats 4000000 in
theorem changed_any (a : Option Addr) (n cap b off : Nat) (l : List Rt) (bef aft : Int) (w : World) (h : Rs w a n b off l) (hn : n ≤ 9223372036854775807) :
    Calls Try.prog 17 #[.slice a n cap, .int .i64 bef, .int .i64 aft] w (ChgP l bef aft w.heap.size w) := by
  by_cases hg : Recs l ∧ tOk bef ∧ tOk aft
  · obtain ⟨hR, ht⟩ := hg
    refine (callsIn_wide.1 (changed_in a b off n cap l bef aft w hR h ht.1 ht.2)).mono ?_
    rintro e w' ⟨v, rfl, hO, hb⟩
    exact ⟨v, by rw [chgC_ok hR ht.1 ht.2], by rw [chgL_ok hR ht.1 ht.2]; exact hO, hb⟩
  have HM := Lib.hid (show _ ∧ _ from ⟨h, h.1⟩)
  clear h
  obtain ⟨W0, hW0⟩ : ∃ W0, W0 = (((w.alloc (.cells #[.slice a n cap] 22)).alloc (.cells #[.int .i64 bef] 3)).alloc (.cells #[.int .i64 aft] 3)).alloc (.cells #[.slice none 0 0] 34) := ⟨_, rfl⟩
  have hB0 : Below w.heap.size w W0 := by rw [hW0]; go_grown
  have k0 : W0.heap[w.heap.size]? = some (.cells #[.slice a n cap] 22 (0, 0)) := by rw [hW0]; exact blk_alloc (blk_alloc (blk_alloc (blk_new w _) _) _) _
  have k1 : W0.heap[w.heap.size + 1]? = some (.cells #[.int .i64 bef] 3 (0, 0)) := by
    rw [hW0]; have := blk_new (w.alloc (.cells #[.slice a n cap] 22)) (.cells #[.int .i64 bef] 3); rw [World.size_alloc] at this; exact blk_alloc (blk_alloc this _) _
  have k2 : W0.heap[w.heap.size + 1 + 1]? = some (.cells #[.int .i64 aft] 3 (0, 0)) := by
    rw [hW0]; have := blk_new ((w.alloc (.cells #[.slice a n cap] 22)).alloc (.cells #[.int .i64 bef] 3)) (.cells #[.int .i64 aft] 3); rw [World.size_alloc, World.size_alloc] at this; exact blk_alloc this _
  have k3 : W0.heap[w.heap.size + 1 + 1 + 1]? = some (.cells #[.slice none 0 0] 34 (0, 0)) := by
    rw [hW0]; have := blk_new (((w.alloc (.cells #[.slice a n cap] 22)).alloc (.cells #[.int .i64 bef] 3)).alloc (.cells #[.int .i64 aft] 3)) (.cells #[.slice none 0 0] 34); rw [World.size_alloc, World.size_alloc, World.size_alloc] at this; exact this
  have H0 := Lib.hid (show _ ∧ _ ∧ _ ∧ _ ∧ _ from ⟨hB0, k0, k1, k2, k3⟩)
  have c0 := blk_cell k0 0
  simp at c0
  clear hB0 k0 k1 k2 k3
  go_enter Try.func17, Try.ntmps17
  go_upto_region 1 with fail
  rw [← hW0]
  clear hW0
  go_wp2_with fail
  clear c0
  refine (check_any a n cap b off l W0 (HM.out.1.grown H0.out.1) hn).mono ?_
  rintro e W1 ⟨rfl, hb1⟩
  have hsz := H0.out.1.size
  have H1 := Lib.hid (show _ ∧ _ ∧ _ ∧ _ from ⟨below_after H0.out.1 hb1 hsz, blk_below H0.out.2.2.1 hb1 (Array.getElem?_eq_some_iff.1 H0.out.2.2.1).1, blk_below H0.out.2.2.2.1 hb1 (Array.getElem?_eq_some_iff.1 H0.out.2.2.2.1).1, blk_below H0.out.2.2.2.2 hb1 (Array.getElem?_eq_some_iff.1 H0.out.2.2.2.2).1⟩)
  have c3 : W1.cell? ⟨w.heap.size + 1 + 1 + 1, 0, none⟩ = some (.slice none 0 0) := blk_cell H1.out.2.2.2 0
  have f3 : W1.frozen? ⟨w.heap.size + 1 + 1 + 1, 0, none⟩ = false := blk_free H1.out.2.2.2 0
  have h3 := one_setCell (u := .slice none 0 0) H1.out.2.2.2
  have c3' : (W1.setCell ⟨w.heap.size + 1 + 1 + 1, 0, none⟩ (.slice none 0 0)).cell? ⟨w.heap.size + 1 + 1 + 1, 0, none⟩ = some (.slice none 0 0) := blk_cell h3 0
  clear h3
  have hbl := Lib.hid (H1.out.1.setCell (p := ⟨w.heap.size + 1 + 1 + 1, 0, none⟩) (show w.heap.size ≤ w.heap.size + 1 + 1 + 1 by omega) (.slice none 0 0))
  clear hb1 hsz
  rcases chkR_cases l with ⟨hc1, hc2⟩ | ⟨hc1, hc0, hc2⟩ | ⟨hR, hc2⟩
  · have E := Lib.hid ((chgC_no (bef := bef) (aft := aft) fun g => by have := g.1; omega).trans hc2)
    rw [hc2]
    clear hc2 hc1 hg
    go_wp2
    exact bodyPost_ret (v := .tuple #[.slice none 0 0, .int .i64 2]) (by simp [results, Try.results17, go_sem, c3']) rfl (ChgP.err E.out (by decide) hbl.out)
  · have E := Lib.hid ((chgC_no (bef := bef) (aft := aft) hc0).trans hc2)
    rw [hc2]
    clear hc2 hc1 hc0 hg
    go_wp2
    exact bodyPost_ret (v := .tuple #[.slice none 0 0, .int .i64 420]) (by simp [results, Try.results17, go_sem, c3']) rfl (ChgP.err E.out (by decide) hbl.out)
  · have ht : ¬ (tOk bef ∧ tOk aft) := fun g => hg ⟨hR, g⟩
    have E := Lib.hid (chgC_arg hR ht)
    rw [hc2]
    clear hc2 hR hg
    have c1 := blk_cell H1.out.2.1 0; have c2 := blk_cell H1.out.2.2.1 0
    simp at c1 c2
    by_cases h1 : 0 ≤ bef ∧ bef ≤ 16777216
    case neg =>
      have v1 := within_f h1
      clear ht h1
      go_wp2_with (go_at_call 27; refine (within_any _ _ _ _).mono ?_; rintro e w' ⟨rfl, rfl⟩; rw [v1])
      exact bodyPost_ret (v := .tuple #[.slice none 0 0, .int .i64 1]) (by simp [results, Try.results17, go_sem, c3']) rfl (ChgP.err E.out (by decide) hbl.out)
    have v1 := within_t h1
    have v2 := within_f (fun h2 => ht ⟨h1, h2⟩)
    clear ht h1
    go_wp2_with (go_at_call 27; refine (within_any _ _ _ _).mono ?_; rintro e w' ⟨rfl, rfl⟩; (first | rw [v1] | rw [v2]))
    exact bodyPost_ret (v := .tuple #[.slice none 0 0, .int .i64 1]) (by simp [results, Try.results17, go_sem, c3']) rfl (ChgP.err E.out (by decide) hbl.out)

set_option maxRecDepth 100000 in
set_option maxHeartbeats 4000000 in
theorem rchanged_any (a : Option Addr) (n cap b off : Nat) (l : List Rt) (bef aft : Int) (w : World) (h : Rs w a n b off l) (hn : n ≤ 9223372036854775807) :
    Calls Try.prog 18 #[.slice a n cap, .int .i64 bef, .int .i64 aft] w (ChgP l bef aft w.heap.size w) := by
  by_cases hg : Recs l ∧ tOk bef ∧ tOk aft
  · obtain ⟨hR, ht⟩ := hg
    refine (rchanged_yes a b off n cap l bef aft w hR h ht.1 ht.2).mono ?_
    rintro e w' ⟨v, rfl, hO, hb⟩
    exact ⟨v, by rw [chgC_ok hR ht.1 ht.2], by rw [chgL_ok hR ht.1 ht.2]; exact hO, hb⟩
  have HM := Lib.hid (show _ ∧ _ from ⟨h, h.1⟩)
  clear h
  go_enter Try.func18, Try.ntmps18
  go_wp2_with fail
  refine (rcheck_any a n cap b off l w HM.out.1 hn).mono ?_
  rintro e W1 ⟨rfl, hb1⟩
  have H1 := Lib.hid hb1
  clear hb1
  rcases chkR_cases l with ⟨hc1, hc2⟩ | ⟨hc1, hc0, hc2⟩ | ⟨hR, hc2⟩
  · have E := Lib.hid ((chgC_no (bef := bef) (aft := aft) fun g => by have := g.1; omega).trans hc2)
    rw [hc2]
    clear hc2 hc1 hg
    go_wp2
    exact bodyPost_ret (v := .tuple #[.slice none 0 0, .int .i64 2]) (by simp [results, Try.results18, go_sem]) rfl (ChgP.err E.out (by decide) H1.out)
  · have E := Lib.hid ((chgC_no (bef := bef) (aft := aft) hc0).trans hc2)
    rw [hc2]
    clear hc2 hc1 hc0 hg
    go_wp2
    exact bodyPost_ret (v := .tuple #[.slice none 0 0, .int .i64 420]) (by simp [results, Try.results18, go_sem]) rfl (ChgP.err E.out (by decide) H1.out)
  · have ht : ¬ (tOk bef ∧ tOk aft) := fun g => hg ⟨hR, g⟩
    have E := Lib.hid (chgC_arg hR ht)
    rw [hc2]
    clear hc2 hR hg
    unfold tOk at ht
    by_cases y1 : bef < 0
    · have z1 : decide (bef < 0) = true := decide_eq_true y1
      clear ht
      go_wp2
      exact bodyPost_ret (v := .tuple #[.slice none 0 0, .int .i64 1]) (by simp [results, Try.results18, go_sem]) rfl (ChgP.err E.out (by decide) H1.out)
    have z1 : decide (bef < 0) = false := decide_eq_false y1
    by_cases y2 : 16777216 < bef
    · have z2 : decide (16777216 < bef) = true := decide_eq_true y2
      clear ht
      go_wp2
      exact bodyPost_ret (v := .tuple #[.slice none 0 0, .int .i64 1]) (by simp [results, Try.results18, go_sem]) rfl (ChgP.err E.out (by decide) H1.out)
    have z2 : decide (16777216 < bef) = false := decide_eq_false y2
    by_cases y3 : aft < 0
    · have z3 : decide (aft < 0) = true := decide_eq_true y3
      clear ht
      go_wp2
      exact bodyPost_ret (v := .tuple #[.slice none 0 0, .int .i64 1]) (by simp [results, Try.results18, go_sem]) rfl (ChgP.err E.out (by decide) H1.out)
    have z3 : decide (aft < 0) = false := decide_eq_false y3
    have z4 : decide (16777216 < aft) = true := decide_eq_true (by omega)
    clear ht
    go_wp2
    exact bodyPost_ret (v := .tuple #[.slice none 0 0, .int .i64 1]) (by simp [results, Try.results18, go_sem]) rfl (ChgP.err E.out (by decide) H1.out)
end Go.Proofs.Ytjedpemjifcciaa
