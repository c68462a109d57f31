/- The walk of CurvesLocal (layer 11). -/
import Derived.Test.YtafffmcmdhbghaaCrvLocM
namespace Go.Proofs.Ytafffmcmdhbghaa
open Go.ChangeShapes Go.WideShapes Go.ChangeAt Go.RowKit Go.Shelf

theorem take_one {l : List Kt} {k : Nat} (h : k < l.length) : l.take (k + 1) = l.take k ++ [nthK l k] := by
  rw [List.take_succ_eq_append_getElem h]
  simp [nthK, List.getD_eq_getElem?_getD, h]
theorem drop_one {l : List Kt} {k R : Nat} (h : k < l.length) (hR : R ≤ k) : (l.drop R).take (k + 1 - R) = (l.drop R).take (k - R) ++ [nthK l k] := by
  rw [show k + 1 - R = (k - R) + 1 by omega, take_one (by rw [List.length_drop]; omega)]
  unfold nthK
  simp only [List.getD_eq_getElem?_getD, List.getElem?_drop, show R + (k - R) = k by omega]
/-- What has been set before knot k. -/
def mo (l : List Kt) (x : Kt) (A R k : Nat) : List Kt := l.take A ++ (if R < k then x :: (l.drop R).take (k - R) else [])
theorem mo_len (l : List Kt) (x : Kt) (A R k : Nat) : (mo l x A R k).length ≤ A + 1 + k := by
  unfold mo
  rw [List.length_append, List.length_take]
  split
  · rw [List.length_cons, List.length_take]; omega
  · simp; omega
theorem mo_low {l : List Kt} {x : Kt} {k : Nat} (h : k < l.length) : mo l x (k + 1) (k + 1) (k + 1) = mo l x k k k ++ [nthK l k] := by
  unfold mo
  rw [if_neg (by omega), if_neg (by omega), take_one h]; simp
theorem mo_same {l : List Kt} {x : Kt} {A k : Nat} : mo l x A (k + 1) (k + 1) = mo l x A k k := by
  unfold mo
  rw [if_neg (by omega), if_neg (by omega)]
theorem mo_set {l : List Kt} {x : Kt} {A k : Nat} (h : k < l.length) : mo l x A k (k + 1) = (mo l x A k k ++ [x]) ++ [nthK l k] := by
  unfold mo
  rw [if_pos (by omega), if_neg (by omega), drop_one h (Nat.le_refl k)]; simp
theorem mo_up {l : List Kt} {x : Kt} {A R k : Nat} (h : k < l.length) (hR : R < k) : mo l x A R (k + 1) = mo l x A R k ++ [nthK l k] := by
  unfold mo
  rw [if_pos (by omega), if_pos (by omega), drop_one h (by omega)]; simp
theorem mo_all {l : List Kt} {x : Kt} {A R : Nat} (hR : R < l.length) : mo l x A R l.length = setL l x A R := by
  unfold mo setL
  rw [if_pos hR, List.take_of_length_le (l := l.drop R) (by rw [List.length_drop]; exact Nat.le_refl _)]
theorem mo_end {l : List Kt} {x : Kt} {A : Nat} : mo l x A l.length l.length ++ [x] = setL l x A l.length := by
  unfold mo setL
  rw [if_neg (by omega), List.drop_of_length_le (Nat.le_refl _)]; simp

set_option maxRecDepth 100000 in
set_option maxHeartbeats 8000000 in
theorem curvesLocal_walk (a : Option Addr) (b off n cap : Nat) (l : List Kt) (xA xV xS xW xX at' : Int) (w : World) (hM : Ks w a n b off l) (hn : n ≤ 9223372036854775807) (hnc : a = none → cap = 0) (hlc : n ≤ cap) :
    Calls Try.prog 8 #[.slice a n cap, .agg #[.int .i64 xA, .int .i64 xV, .int .i64 xS, .int .i64 xW, .int .i64 xX], .int .i64 at'] w fun e w' => e = .returned (.bool true) ∧ Below w.heap.size w w' := by
  have hl := hM.1
  have HM := Lib.hid hM
  clear hM
  go_enter Try.func8, Try.ntmps8
  have n0 := blk_new w (.cells #[.int .i64 xA, .int .i64 xV, .int .i64 xS, .int .i64 xW, .int .i64 xX] 43)
  have hB0 := (Below.refl w.heap.size w).alloc (Nat.le_refl _) (.cells #[.int .i64 xA, .int .i64 xV, .int .i64 xS, .int .i64 xW, .int .i64 xX] 43)
  have hs0 : (w.alloc (.cells #[.int .i64 xA, .int .i64 xV, .int .i64 xS, .int .i64 xW, .int .i64 xX] 43)).heap.size = w.heap.size + 1 := by simp
  go_wp2_with fail
  generalize w.alloc (.cells #[.int .i64 xA, .int .i64 xV, .int .i64 xS, .int .i64 xW, .int .i64 xX] 43) = W at *
  refine (sane_any _).mono ?_; rintro e w1 ⟨rfl, hb⟩
  have n1 := blk_below n0 hb (by omega)
  have hB1 := below_after hB0 hb hB0.size
  clear hb n0 hB0
  go_wp2_with fail
  refine (rfew_any a n cap w1).mono ?_; rintro e w' ⟨rfl, rfl⟩
  by_cases hf : (n : Int) ≤ 1100
  case neg =>
    rw [decide_eq_false hf]
    go_wp2
    go_ret
    exact ⟨rfl, hB1⟩
  rw [decide_eq_true hf]
  by_cases hc : Curve l
  case neg =>
    go_wp2_with fail
    refine (rccheck_any a b off n cap l _ (HM.out.grown hB1) hn).mono ?_; rintro e w5 ⟨rfl, hb⟩; rw [chkC_no hc]
    replace hB1 := below_after hB1 hb hB1.size
    clear hb
    go_wp2
    go_ret
    exact ⟨rfl, hB1⟩
  go_wp2_with fail
  refine (rccheck_any a b off n cap l _ (HM.out.grown hB1) hn).mono ?_; rintro e w2 ⟨rfl, hb⟩; rw [chkC_yes hc]
  have n2 := blk_below n1 hb (Array.getElem?_eq_some_iff.1 n1).1
  have hB2 := below_after hB1 hb hB1.size
  clear hb n1 hB1
  have HC := Lib.hid (show _ ∧ _ ∧ _ from ⟨hc, n2, hB2⟩)
  clear hc n2 hB2
  obtain ⟨xx, hxx⟩ : ∃ xx : Kt, xx = (xA, xV, xS, xW, xX) := ⟨_, rfl⟩
  go_wp2
  go_loopw [7, 8, 9, 10, 30] (fun v fr to se ii W' => ∃ k A R : Nat, k ≤ n ∧ ii = .int .i64 k ∧ (A ≤ R ∧ R ≤ k ∧ (∀ i, i < A → (nthK l i).1 < xA) ∧ (∀ i, A ≤ i → i < R → (nthK l i).1 = xA) ∧ (∀ i, R ≤ i → i < k → xA < (nthK l i).1)) ∧ KsO W' (w.heap.size + 1) v (mo l xx A R k) ∧ (∃ F, fr = .int .i64 F ∧ F = if A = 0 then -1 else (nthK l (A - 1)).1) ∧ (∃ O, to = .int .i64 O ∧ O = if R < k then (nthK l R).1 else 1099511627777) ∧ (∃ s, se = .bool s ∧ s = decide (R < k)) ∧ Below (w.heap.size + 1) w2 W') (fun _ _ _ _ ii _ => n - (intOf ii).toNat)
  case atStart => exact ⟨0, 0, 0, Nat.zero_le _, rfl, ⟨Nat.le_refl _, Nat.le_refl _, fun i h => by omega, fun i h1 h2 => by omega, fun i h1 h2 => by omega⟩, KsO.nil _ _, ⟨_, rfl, rfl⟩, ⟨_, rfl, rfl⟩, ⟨_, rfl, rfl⟩, Below.refl _ _⟩
  case round =>
    obtain ⟨k, A, R, hk, rfl, hAR, hO, ⟨F, rfl, hF⟩, ⟨O, rfl, hOO⟩, ⟨s, rfl, hs⟩, hB⟩ := hrel
    by_cases hlt : k < n
    · obtain ⟨rfl, hbw⟩ := HM.out.2.1 (by omega)
      have hw2 := HC.out.2.2.size
      have hwr := hB.size
      have hx2 := (Array.getElem?_eq_some_iff.1 HC.out.2.1).1
      have hBw := HC.out.2.2.trans (hB.mono (Nat.le_succ _))
      obtain ⟨c0, c1, c2, c3, c4⟩ := (HM.out.grown hBw).2.2 k hlt
      have n3 := blk_below HC.out.2.1 hB (Nat.lt_succ_self _)
      have a0 := blk_cell n3 0; have a1 := blk_cell n3 1; have a2 := blk_cell n3 2; have a3 := blk_cell n3 3; have a4 := blk_cell n3 4
      simp at a0 a1 a2 a3 a4
      have hinc := fun i (h : i < k) => incr2 HC.out.1.1 k i h (by omega)
      have hon := mo_low (l := l) (x := xx) (k := k) (by omega)
      have hos := mo_set (l := l) (x := xx) (A := A) (k := k) (by omega)
      have hou := fun h => mo_up (l := l) (x := xx) (A := A) (R := R) (k := k) (by omega) h
      generalize hy : nthK l k = y at *
      obtain ⟨yA, yV, yS, yW, yX⟩ := y
      dsimp only at c0 c1 c2 c3 c4 hinc hon hos hou
      have hw3 : w.heap.size < wr.heap.size := by omega
      have uk : IntKind.i64.wrap ((k : Int) + 1) = (k : Int) + 1 := wrap_id (by omega)
      have i2 : (k : Int) < (n : Int) := by omega
      have HO := Lib.hid (show _ ∧ _ from ⟨hO, hB⟩)
      have HY := Lib.hid (show _ ∧ _ ∧ _ ∧ _ from ⟨hy, hon, hos, hou⟩)
      have hBX : Below wr.heap.size wr ((wr.alloc (.cells #[.int .i64 yA, .int .i64 yV, .int .i64 yS, .int .i64 yW, .int .i64 yX] 43)).alloc (.cells #[.int .i64 yA, .int .i64 yV, .int .i64 yS, .int .i64 yW, .int .i64 yX] 43)) := ((Below.refl _ _).alloc (Nat.le_refl _) _).alloc (by simp) _
      have hNX := blk_new (wr.alloc (.cells #[.int .i64 yA, .int .i64 yV, .int .i64 yS, .int .i64 yW, .int .i64 yX] 43)) (.cells #[.int .i64 yA, .int .i64 yV, .int .i64 yS, .int .i64 yW, .int .i64 yX] 43)
      rw [World.size_alloc] at hNX
      have HZ := Lib.hid (show _ ∧ _ from ⟨hBX, hNX⟩)
      clear hBX hNX hO hB hBw n3 hy hon hos hou
      obtain ⟨hA1, hR1, hlo, heq, hhi⟩ := hAR
      by_cases q1 : yA < xA
      · have hRk : R = k := by
          rcases Nat.lt_or_ge R k with h | h
          · have := hhi R (Nat.le_refl _) h; have := hinc R h; omega
          · omega
        subst hRk
        have hAk : A = R := by
          rcases Nat.lt_or_ge A R with h | h
          · have := heq A (Nat.le_refl _) h; have := hinc A h; omega
          · omega
        subst hAk
        have hs' : s = false := by rw [hs]; simp
        subst hs'
        have HH := Lib.hid (show _ ∧ _ ∧ _ ∧ _ from ⟨hlo, hinc, hOO, q1⟩)
        clear hlo heq hhi hinc hF hOO hs
        have q2 : ¬ xA < yA := by omega
        have q3 : ¬ yA = xA := by omega
        go_wp2_with (at_builtin; refine wpList_append_K rfl _ _ rfl (w.heap.size + 1) _ (mo l xx A A A) rfl (HO.out.1.below HZ.out.1 (Nat.le_refl _)) (wr.heap.size + 1) (yA, yV, yS, yW, yX) rfl 43 (0, 0) HZ.out.2 (by have := mo_len l xx A A A; omega) (by simp; omega) ?_; intro v6 w6 hO6 hB6 hG6; clear hG6; have HO6 := Lib.hid (show _ ∧ _ from ⟨hO6, (HO.out.2.trans (HZ.out.1.mono (by omega))).trans hB6⟩); clear hO6 hB6)
        go_roundw
        case rel => exact ⟨A + 1, A + 1, A + 1, by omega, by go_num, ⟨by omega, by omega, fun i h => by
            by_cases e : i = A
            · subst e; rw [HY.out.1]; exact HH.out.2.2.2
            · exact HH.out.1 i (by omega), fun i h1 h2 => by omega, fun i h1 h2 => by omega⟩, by rw [HY.out.2.1]; exact HO6.out.1, ⟨_, rfl, by rw [if_neg (by omega), Nat.add_sub_cancel, HY.out.1]⟩, ⟨_, rfl, by rw [HH.out.2.2.1, if_neg (by omega), if_neg (by omega)]⟩, ⟨_, rfl, by simp⟩, HO6.out.2⟩
        case measure => simp [intOf] <;> omega
      by_cases q2 : yA = xA
      · have hRk : R = k := by
          rcases Nat.lt_or_ge R k with h | h
          · have := hhi R (Nat.le_refl _) h; have := hinc R h; omega
          · omega
        subst hRk
        have hs' : s = false := by rw [hs]; simp
        subst hs'
        have HH := Lib.hid (show _ ∧ _ ∧ _ ∧ _ ∧ _ ∧ _ from ⟨hlo, heq, hOO, q2, hF, hA1⟩)
        have HYB := Lib.hid (show Below wr.heap.size wr (wr.alloc (.cells #[.int .i64 yA, .int .i64 yV, .int .i64 yS, .int .i64 yW, .int .i64 yX] 43)) from (Below.refl _ _).alloc (Nat.le_refl _) _)
        clear hlo heq hhi hinc hF hOO hs
        subst q2
        go_wp2
        go_roundw
        case rel => exact ⟨R + 1, A, R + 1, by omega, by go_num, ⟨by omega, by omega, HH.out.1, fun i h1 h2 => by
            by_cases e : i = R
            · subst e; rw [HY.out.1]
            · exact HH.out.2.1 i h1 (by omega), fun i h1 h2 => by omega⟩, by rw [mo_same]; exact HO.out.1.below HYB.out (Nat.le_refl _), ⟨_, rfl, HH.out.2.2.2.2.1⟩, ⟨_, rfl, by rw [HH.out.2.2.1, if_neg (by omega), if_neg (by omega)]⟩, ⟨_, rfl, by simp⟩, HO.out.2.trans (HYB.out.mono (by omega))⟩
        case measure => simp [intOf] <;> omega
      by_cases hRk : R < k
      · have hs' : s = true := by rw [hs]; simpa using hRk
        subst hs'
        have HH := Lib.hid (show _ ∧ _ ∧ _ ∧ _ ∧ _ ∧ _ ∧ _ from ⟨hlo, heq, hhi, hOO, hF, hA1, hRk⟩)
        have q3 : xA < yA := by omega
        clear hlo heq hhi hinc hF hOO hs
        go_wp2_with (at_builtin; refine wpList_append_K rfl _ _ rfl (w.heap.size + 1) _ (mo l xx A R k) rfl (HO.out.1.below HZ.out.1 (Nat.le_refl _)) (wr.heap.size + 1) (yA, yV, yS, yW, yX) rfl 43 (0, 0) HZ.out.2 (by have := mo_len l xx A R k; omega) (by simp; omega) ?_; intro v6 w6 hO6 hB6 hG6; clear hG6; have HO6 := Lib.hid (show _ ∧ _ from ⟨hO6, (HO.out.2.trans (HZ.out.1.mono (by omega))).trans hB6⟩); clear hO6 hB6)
        go_roundw
        case rel => exact ⟨k + 1, A, R, by omega, by go_num, ⟨by omega, by omega, HH.out.1, HH.out.2.1, fun i h1 h2 => by
            by_cases e : i = k
            · subst e; rw [HY.out.1]; exact q3
            · exact HH.out.2.2.1 i h1 (by omega)⟩, by rw [HY.out.2.2.2 HH.out.2.2.2.2.2.2]; exact HO6.out.1, ⟨_, rfl, HH.out.2.2.2.2.1⟩, ⟨_, rfl, by rw [HH.out.2.2.2.1, if_pos hRk, if_pos (by omega)]⟩, ⟨_, rfl, by simp; omega⟩, HO6.out.2⟩
        case measure => simp [intOf] <;> omega
      · obtain rfl : R = k := by omega
        have hs' : s = false := by rw [hs]; simp
        subst hs'
        have HH := Lib.hid (show _ ∧ _ ∧ _ ∧ _ ∧ _ from ⟨hlo, heq, hOO, hF, hA1⟩)
        have q3 : xA < yA := by omega
        clear hlo heq hhi hinc hF hOO hs
        have ny := blk_new wr (.cells #[.int .i64 yA, .int .i64 yV, .int .i64 yS, .int .i64 yW, .int .i64 yX] 43)
        have hB1 : Below wr.heap.size wr (wr.alloc (.cells #[.int .i64 yA, .int .i64 yV, .int .i64 yS, .int .i64 yW, .int .i64 yX] 43)) := (Below.refl _ _).alloc (Nat.le_refl _) _
        have nx1 := blk_alloc (blk_below HC.out.2.1 HO.out.2 (Nat.lt_succ_self _)) (.cells #[.int .i64 yA, .int .i64 yV, .int .i64 yS, .int .i64 yW, .int .i64 yX] 43)
        have hs1 : (wr.alloc (.cells #[.int .i64 yA, .int .i64 yV, .int .i64 yS, .int .i64 yW, .int .i64 yX] 43)).heap.size = wr.heap.size + 1 := by simp
        go_wp2_with fail
        generalize wr.alloc (.cells #[.int .i64 yA, .int .i64 yV, .int .i64 yS, .int .i64 yW, .int .i64 yX] 43) = W1 at *
        have HW1 := Lib.hid (show _ ∧ _ ∧ _ ∧ _ from ⟨ny, nx1, hB1, hs1⟩)
        clear hs1
        obtain ⟨va, _, vc, hvv, _⟩ := HO.out.1.s
        subst hvv
        obtain ⟨vn, hvn⟩ : ∃ vn, vn = (mo l xx A R R).length := ⟨_, rfl⟩
        have HVN := Lib.hid hvn
        simp only [← hvn] at *
        have HCW : ∀ w', (fun w' : World => w'.heap[w.heap.size]? = some (.cells #[.int .i64 xA, .int .i64 xV, .int .i64 xS, .int .i64 xW, .int .i64 xX] 43 (0, 0)) ∧ w'.heap[wr.heap.size]? = some (.cells #[.int .i64 yA, .int .i64 yV, .int .i64 yS, .int .i64 yW, .int .i64 yX] 43 (0, 0))) w' → w'.cell? ⟨w.heap.size, 0, none⟩ = some (.int .i64 xA) ∧ w'.cell? ⟨w.heap.size, 1, none⟩ = some (.int .i64 xV) ∧ w'.cell? ⟨w.heap.size, 2, none⟩ = some (.int .i64 xS) ∧ w'.cell? ⟨w.heap.size, 3, none⟩ = some (.int .i64 xW) ∧ w'.cell? ⟨w.heap.size, 4, none⟩ = some (.int .i64 xX) ∧ w'.cell? ⟨wr.heap.size, 0, none⟩ = some (.int .i64 yA) := by
          rintro w' ⟨m2, m1⟩
          exact ⟨blk_cell m2 0, blk_cell m2 1, blk_cell m2 2, blk_cell m2 3, blk_cell m2 4, blk_cell m1 0⟩
        have HCW := Lib.hid HCW
        clear ny nx1 hB1
        refine wp_region_from 0 2 (fun w' : World => w'.heap[w.heap.size]? = some (.cells #[.int .i64 xA, .int .i64 xV, .int .i64 xS, .int .i64 xW, .int .i64 xX] 43 (0, 0)) ∧ w'.heap[wr.heap.size]? = some (.cells #[.int .i64 yA, .int .i64 yV, .int .i64 yS, .int .i64 yW, .int .i64 yX] 43 (0, 0))) (by kernel_rfl) (by kernel_rfl) (by decide) (by kernel_rfl) ⟨HW1.out.2.1, HW1.out.1⟩ ?_
        simp only [List.drop_zero, List.take_succ_cons, List.take_zero]
        refine wpHeld_cons (.slice va vn vc) (by kernel_rfl) ?_ ?_
        · intro w' s
          rfl
        refine wpHeld_cons (.agg #[.int .i64 xA, .int .i64 xV, .int .i64 xS, .int .i64 xW, .int .i64 xX]) (by kernel_rfl) ?_ ?_
        · intro w' s
          obtain ⟨x0, x1, x2, x3, x4, y0⟩ := HCW.out w' s
          try go_simp
        refine wpHeld_nil ?_
        go_simp
        refine wpAnyH_from 4 2 (fun _ _ _ _ _ h => h) (by kernel_rfl) (by decide) (by kernel_rfl) ⟨HW1.out.2.1, HW1.out.1⟩ ?_
        simp only [List.drop_succ_cons, List.drop_zero, List.take_succ_cons, List.take_zero]
        refine wpHeld_cons (.pointer (some ⟨wr.heap.size, 0, none⟩)) (by kernel_rfl) ?_ ?_
        · intro w' s
          rfl
        refine wpHeld_cons (.int .i64 yA) (by kernel_rfl) ?_ ?_
        · intro w' s
          obtain ⟨x0, x1, x2, x3, x4, y0⟩ := HCW.out w' s
          try go_simp
        refine wpHeld_nil ?_
        go_simp
        refine wpAnyH_one (i := 2) (by kernel_rfl) rfl (by kernel_rfl) (fun K' hK' => ?_)
        go_simp
        have s2 := And.intro (blk_alloc HW1.out.2.1 (.cells #[.int .i64 xA, .int .i64 xV, .int .i64 xS, .int .i64 xW, .int .i64 xX] 43)) (blk_alloc HW1.out.1 (.cells #[.int .i64 xA, .int .i64 xV, .int .i64 xS, .int .i64 xW, .int .i64 xX] 43))
        refine hK' _ _ s2 ?_
        clear hK' K'
        refine wpAnyH_one (i := 3) (by kernel_rfl) rfl (by kernel_rfl) (fun K' hK' => ?_)
        have hs1 := HW1.out.2.2.2
        refine wp_append_K (.tmp 50) (.tmp 52) rfl (w.heap.size + 1) (.slice va vn vc) (mo l xx A R R) rfl (HO.out.1.below (B' := wr.heap.size) (by first | exact HW1.out.2.2.1.drew.alloc (by show wr.heap.size ≤ W1.heap.size; omega) _ | exact HW1.out.2.2.1.drew.drew.alloc (by show wr.heap.size ≤ W1.heap.size; omega) _) (Nat.le_refl _)) W1.heap.size (xA, xV, xS, xW, xX) rfl 43 (0, 0) (blk_new _ _) (by have := mo_len l xx A R R; omega) (by show w.heap.size + 1 ≤ (World.alloc _ _).heap.size; rw [World.size_alloc]; show _ ≤ W1.heap.size + 1; omega) ?_
        intro v6 w6 hO6 hB6 hG6
        have sd := And.intro (blk_drew s2.1) (blk_drew s2.2)
        have nx6 := blk_below sd.1 hB6 (Nat.lt_succ_self _)
        have ny6 := (hG6.block wr.heap.size (Array.getElem?_eq_some_iff.1 sd.2).1 (fun e => by have := (World.ownsRow.lt HO.out.1 wr.heap.size e.symm).2; omega)).trans sd.2
        obtain ⟨vb, _, vc6, hv6, _⟩ := hO6.s
        obtain ⟨vn6, hvn6⟩ : ∃ vn6, vn6 = (mo l xx A R R ++ [(xA, xV, xS, xW, xX)]).length := ⟨_, rfl⟩
        rw [← hvn6] at hv6
        subst hv6
        have hBw6 := (HO.out.2.trans (((HW1.out.2.2.1.alloc (by omega) (.cells #[.int .i64 xA, .int .i64 xV, .int .i64 xS, .int .i64 xW, .int .i64 xX] 43)).drew).mono (by omega))).trans hB6
        have HO6 := Lib.hid (show _ ∧ _ ∧ _ from ⟨hO6, hBw6, hvn6⟩)
        have s6 := And.intro nx6 ny6
        refine hK' _ _ s6 ?_
        clear hK' K' hO6 hB6 hG6 s2 sd hs1 hvn6 hBw6
        have H6 := Lib.hid s6
        have s6' := And.intro nx6 ny6
        clear nx6 ny6 s6
        refine wpAnyH_one (i := 6) (by kernel_rfl) rfl (by kernel_rfl) (fun K' hK' => ?_)
        go_simp
        refine hK' _ _ H6.out ?_
        clear hK' K'
        refine wpAnyH_one (i := 7) (by kernel_rfl) rfl (by kernel_rfl) (fun K' hK' => ?_)
        go_simp
        refine hK' _ _ H6.out ?_
        clear hK' K'
        refine wpAnyH_one (i := 8) (by kernel_rfl) rfl (by kernel_rfl) (fun K' hK' => ?_)
        go_simp
        refine hK' _ _ H6.out ?_
        clear hK' K'
        refine wpAnyH_done (by kernel_rfl) ?_ _
        refine NoPanic.normal ?_
        clear s6' a0 a1 a2 a3 a4
        obtain ⟨x0, x1, x2, x3, x4, y0⟩ := HCW.out w6 H6.out
        have y1 := blk_cell H6.out.2 1; have y2 := blk_cell H6.out.2 2; have y3 := blk_cell H6.out.2 3; have y4 := blk_cell H6.out.2 4
        simp at y1 y2 y3 y4
        have q4 : ¬ yA = xA := by omega
        have HO7 := Lib.hid (show _ ∧ _ from ⟨HO6.out.1.alloc (.cells #[.int .i64 yA, .int .i64 yV, .int .i64 yS, .int .i64 yW, .int .i64 yX] 43), HO6.out.2.1.size⟩)
        go_wp2_with (at_builtin; refine wpList_append_K rfl _ _ rfl (w.heap.size + 1) _ (mo l xx A R R ++ [(xA, xV, xS, xW, xX)]) rfl (HO6.out.2.2 ▸ HO7.out.1) w6.heap.size (yA, yV, yS, yW, yX) rfl 43 (0, 0) (blk_new _ _) (by have := mo_len l xx A R R; simp; omega) (by have := HO7.out.2; simp; omega) ?_; intro v8 w8 hO8 hB8 hG8; clear hG8; have HO8 := Lib.hid (show _ ∧ _ from ⟨hO8, (HO6.out.2.1.alloc (by have := HO7.out.2; omega) _).trans hB8⟩); clear hO8 hB8)
        go_roundw
        case rel => exact ⟨R + 1, A, R, by omega, by go_num, ⟨by omega, by omega, HH.out.1, HH.out.2.1, fun i h1 h2 => by
            obtain rfl : i = R := by omega
            rw [HY.out.1]; exact q3⟩, by rw [HY.out.2.2.1, hxx]; rw [hxx] at HO8; exact HO8.out.1, ⟨_, rfl, HH.out.2.2.2.1⟩, ⟨_, rfl, by rw [if_pos (by omega), HY.out.1]⟩, ⟨_, rfl, by simp⟩, HO8.out.2⟩
        case measure => simp [intOf] <;> omega
    · obtain rfl : k = n := by omega
      obtain ⟨hA1, hR1, -, -, -⟩ := hAR
      have hx2 := (Array.getElem?_eq_some_iff.1 HC.out.2.1).1
      have hBw := HC.out.2.2.trans (hB.mono (Nat.le_succ _))
      have n3 := blk_below HC.out.2.1 hB (Nat.lt_succ_self _)
      have hwr := hB.size
      by_cases hRk : R < k
      · have hm := mo_all (l := l) (x := xx) (A := A) (R := R) (by omega)
        rw [hl] at hm
        rw [hm] at hO
        have hs' : s = true := by rw [hs]; simpa using hRk
        subst hs'
        clear n3 hm
        obtain ⟨ML, hML⟩ : ∃ ML, ML = setL l xx A R := ⟨_, rfl⟩
        rw [← hML] at hO
        obtain ⟨vb, vg, vc, hv, hsl, -, hnv, hlv, -⟩ := hO.s
        have hln := setL_len (l := l) (x := xx) hA1 (by omega : R ≤ l.length)
        rw [← hML] at hln
        obtain ⟨mn, hmn⟩ : ∃ mn, mn = ML.length := ⟨_, rfl⟩
        rw [← hmn] at hv hsl hlv hln
        subst hv
        have HM2 := Lib.hid (show _ ∧ _ ∧ _ ∧ _ ∧ _ from ⟨hsl, hnv, hlv, hBw, hML⟩)
        have hmn9 : mn ≤ 9223372036854775807 := by omega
        have HFO2 := Lib.hid (show _ ∧ _ from ⟨hF, hOO⟩)
        clear hF hOO
        clear hO hs hsl hBw hB hML hmn hln hnv hlv
        by_cases hcm : Curve ML
        case neg =>
          go_wp2_with fail
          refine (rccheck_any vb vg 0 mn vc ML _ HM2.out.1 hmn9).mono ?_; rintro e w7 ⟨rfl, hb⟩; rw [chkC_no hcm]
          have hBf := below_after HM2.out.2.2.2.1 hb HM2.out.2.2.2.1.size
          clear hb
          go_wp2
          go_ret
          exact ⟨rfl, hBf⟩
        go_wp2_with fail
        refine (rccheck_any vb vg 0 mn vc ML _ HM2.out.1 hmn9).mono ?_; rintro e w7 ⟨rfl, hb⟩; rw [chkC_yes hcm]
        have B7 := below_after HM2.out.2.2.2.1 hb HM2.out.2.2.2.1.size
        have K7 := HM2.out.1.grown hb
        have H7 := Lib.hid (show _ ∧ _ ∧ _ from ⟨B7, K7, hcm⟩)
        clear hb B7 K7 hcm
        go_wp2_with fail
        refine (cvalue_any a b off k cap l at' _ (HM.out.grown H7.out.1) hn hnc hlc).mono ?_; rintro e w8 ⟨rfl, hb⟩; rw [chkC_yes HC.out.1, valV_yes HC.out.1]
        have B8 := below_after H7.out.1 hb H7.out.1.size
        have K8 := H7.out.2.1.grown hb
        have H8 := Lib.hid (show _ ∧ _ from ⟨B8, K8⟩)
        clear hb B8 K8
        go_wp2_with fail
        refine (cvalue_any vb vg 0 mn vc ML at' _ H8.out.2 hmn9 HM2.out.2.1 HM2.out.2.2.1).mono ?_; rintro e w9 ⟨rfl, hb⟩; rw [chkC_yes H7.out.2.2, valV_yes H7.out.2.2]
        have B9 := below_after H8.out.1 hb H8.out.1.size
        obtain ⟨hF, hOO⟩ := HFO2.out
        have hcm' : Curve (setL l xx A R) := by rw [← HM2.out.2.2.2.2]; exact H7.out.2.2
        have f1 := fun h0 ha => local_lo (x := xx) (A := A) (R := R) HC.out.1 hcm' (by omega) (by omega) h0 (at' := at') ha
        have f2 := fun h0 ha => local_hi (x := xx) (A := A) (R := R) HC.out.1 hcm' (by omega) h0 (at' := at') ha
        rw [← HM2.out.2.2.2.2] at f1 f2
        clear hb hcm'
        generalize valC l at' = V1 at *
        generalize valC ML at' = V2 at *
        have FIN : V1 = V2 ∨ (¬ (0 ≤ F ∧ at' ≤ F) ∧ ¬ (O ≤ 1099511627776 ∧ O ≤ at')) := by
          by_cases hv : V1 = V2
          · exact .inl hv
          refine .inr ⟨?_, ?_⟩
          · rintro ⟨h1, h2⟩
            by_cases h0 : A = 0
            · rw [if_pos h0] at hF; omega
            · rw [if_neg h0] at hF; exact hv (f1 (by omega) (by omega))
          · rintro ⟨h1, h2⟩
            by_cases h0 : R < k
            · rw [if_pos h0] at hOO; exact hv (f2 (by omega) (by omega))
            · rw [if_neg h0] at hOO; omega
        have H9 := Lib.hid B9
        clear hF hOO f1 f2 B9
        rcases FIN with rfl | ⟨g1, g2⟩
        · go_wp2
          all_goals go_ret
          all_goals exact ⟨by simp, H9.out⟩
        · by_cases u1 : 0 ≤ F <;> by_cases u2 : O ≤ 1099511627776
          all_goals
            first | (have u3 : ¬ at' ≤ F := fun h => g1 ⟨u1, h⟩) | skip
            first | (have u4 : ¬ O ≤ at' := fun h => g2 ⟨u2, h⟩) | skip
            clear g1 g2
            go_wp2
            all_goals go_ret
            all_goals exact ⟨by simp, H9.out⟩
      · obtain rfl : R = k := by omega
        have hm := mo_end (l := l) (x := xx) (A := A)
        rw [hl] at hm
        have hs' : s = false := by rw [hs]; simp
        subst hs'
        have a0 := blk_cell n3 0; have a1 := blk_cell n3 1; have a2 := blk_cell n3 2; have a3 := blk_cell n3 3; have a4 := blk_cell n3 4
        simp at a0 a1 a2 a3 a4
        have HFO := Lib.hid (show _ ∧ _ from ⟨hF, hOO⟩)
        have HO := Lib.hid (show _ ∧ _ ∧ _ from ⟨hO, hm, hBw⟩)
        have HX := Lib.hid (show _ ∧ _ from ⟨blk_new wr (.cells #[.int .i64 xA, .int .i64 xV, .int .i64 xS, .int .i64 xW, .int .i64 xX] 43), (by rw [World.size_alloc]; omega : w.heap.size + 1 ≤ (wr.alloc (.cells #[.int .i64 xA, .int .i64 xV, .int .i64 xS, .int .i64 xW, .int .i64 xX] 43)).heap.size)⟩)
        have HW := Lib.hid (show Below wr.heap.size wr (wr.alloc (.cells #[.int .i64 xA, .int .i64 xV, .int .i64 xS, .int .i64 xW, .int .i64 xX] 43)) from (Below.refl _ _).alloc (Nat.le_refl _) _)
        have hw3 : w.heap.size < wr.heap.size := by omega
        clear hO hm hB hBw hs n3 hF hOO
        go_wp2_with (at_builtin; refine wpList_append_K rfl _ _ rfl (w.heap.size + 1) _ (mo l xx A R R) rfl (HO.out.1.below HW.out (Nat.le_refl _)) wr.heap.size (xA, xV, xS, xW, xX) rfl 43 (0, 0) HX.out.1 (by have := mo_len l xx A R R; omega) HX.out.2 ?_; intro v6 w6 hO6 hB6 hG6; clear hG6; have HO6 := Lib.hid (show _ ∧ _ from ⟨hO6, (HO.out.2.2.trans (HW.out.mono (by omega))).trans (hB6.mono (Nat.le_succ _))⟩); clear hO6 hB6)
        obtain ⟨hF, hOO⟩ := HFO.out
        obtain ⟨hO, hBw⟩ := HO6.out
        have hs : True := trivial
        have hB : True := trivial
        rw [show (xA, xV, xS, xW, xX) = xx from hxx.symm, HO.out.2.1] at hO
        clear a0 a1 a2 a3 a4 HFO HO HX HW HO6
        obtain ⟨ML, hML⟩ : ∃ ML, ML = setL l xx A R := ⟨_, rfl⟩
        rw [← hML] at hO
        obtain ⟨vb, vg, vc, hv, hsl, -, hnv, hlv, -⟩ := hO.s
        have hln := setL_len (l := l) (x := xx) hA1 (by omega : R ≤ l.length)
        rw [← hML] at hln
        obtain ⟨mn, hmn⟩ : ∃ mn, mn = ML.length := ⟨_, rfl⟩
        rw [← hmn] at hv hsl hlv hln
        subst hv
        have HM2 := Lib.hid (show _ ∧ _ ∧ _ ∧ _ ∧ _ from ⟨hsl, hnv, hlv, hBw, hML⟩)
        have hmn9 : mn ≤ 9223372036854775807 := by omega
        have HFO2 := Lib.hid (show _ ∧ _ from ⟨hF, hOO⟩)
        clear hF hOO
        clear hO hs hsl hBw hB hML hmn hln hnv hlv
        by_cases hcm : Curve ML
        case neg =>
          go_wp2_with fail
          refine (rccheck_any vb vg 0 mn vc ML _ HM2.out.1 hmn9).mono ?_; rintro e w7 ⟨rfl, hb⟩; rw [chkC_no hcm]
          have hBf := below_after HM2.out.2.2.2.1 hb HM2.out.2.2.2.1.size
          clear hb
          go_wp2
          go_ret
          exact ⟨rfl, hBf⟩
        go_wp2_with fail
        refine (rccheck_any vb vg 0 mn vc ML _ HM2.out.1 hmn9).mono ?_; rintro e w7 ⟨rfl, hb⟩; rw [chkC_yes hcm]
        have B7 := below_after HM2.out.2.2.2.1 hb HM2.out.2.2.2.1.size
        have K7 := HM2.out.1.grown hb
        have H7 := Lib.hid (show _ ∧ _ ∧ _ from ⟨B7, K7, hcm⟩)
        clear hb B7 K7 hcm
        go_wp2_with fail
        refine (cvalue_any a b off R cap l at' _ (HM.out.grown H7.out.1) hn hnc hlc).mono ?_; rintro e w8 ⟨rfl, hb⟩; rw [chkC_yes HC.out.1, valV_yes HC.out.1]
        have B8 := below_after H7.out.1 hb H7.out.1.size
        have K8 := H7.out.2.1.grown hb
        have H8 := Lib.hid (show _ ∧ _ from ⟨B8, K8⟩)
        clear hb B8 K8
        go_wp2_with fail
        refine (cvalue_any vb vg 0 mn vc ML at' _ H8.out.2 hmn9 HM2.out.2.1 HM2.out.2.2.1).mono ?_; rintro e w9 ⟨rfl, hb⟩; rw [chkC_yes H7.out.2.2, valV_yes H7.out.2.2]
        have B9 := below_after H8.out.1 hb H8.out.1.size
        obtain ⟨hF, hOO⟩ := HFO2.out
        have hcm' : Curve (setL l xx A R) := by rw [← HM2.out.2.2.2.2]; exact H7.out.2.2
        have f1 := fun h0 ha => local_lo (x := xx) (A := A) (R := R) HC.out.1 hcm' (by omega) (by omega) h0 (at' := at') ha
        have f2 := fun h0 ha => local_hi (x := xx) (A := A) (R := R) HC.out.1 hcm' (by omega) h0 (at' := at') ha
        rw [← HM2.out.2.2.2.2] at f1 f2
        clear hb hcm'
        generalize valC l at' = V1 at *
        generalize valC ML at' = V2 at *
        have FIN : V1 = V2 ∨ (¬ (0 ≤ F ∧ at' ≤ F) ∧ ¬ (O ≤ 1099511627776 ∧ O ≤ at')) := by
          by_cases hv : V1 = V2
          · exact .inl hv
          refine .inr ⟨?_, ?_⟩
          · rintro ⟨h1, h2⟩
            by_cases h0 : A = 0
            · rw [if_pos h0] at hF; omega
            · rw [if_neg h0] at hF; exact hv (f1 (by omega) (by omega))
          · rintro ⟨h1, h2⟩
            by_cases h0 : R < R
            · rw [if_pos h0] at hOO; exact hv (f2 (by omega) (by omega))
            · rw [if_neg h0] at hOO; omega
        have H9 := Lib.hid B9
        clear hF hOO f1 f2 B9
        rcases FIN with rfl | ⟨g1, g2⟩
        · go_wp2
          all_goals go_ret
          all_goals exact ⟨by simp, H9.out⟩
        · by_cases u1 : 0 ≤ F <;> by_cases u2 : O ≤ 1099511627776
          all_goals
            first | (have u3 : ¬ at' ≤ F := fun h => g1 ⟨u1, h⟩) | skip
            first | (have u4 : ¬ O ≤ at' := fun h => g2 ⟨u2, h⟩) | skip
            clear g1 g2
            go_wp2
            all_goals go_ret
            all_goals exact ⟨by simp, H9.out⟩
end Go.Proofs.Ytafffmcmdhbghaa
