/- The reference of gestures (layer 12). -/
import Derived.Test.YtmblkmllamccnaaGesCheck
import Derived.Test.YtmblkmllamccnaaGesMath
namespace Go.Proofs.Ytmblkmllamccnaa
open Go.ChangeShapes Go.WideShapes Go.ChangeAt Go.RowKit

set_option maxRecDepth 100000 in
set_option maxHeartbeats 4000000 in
theorem rgvalid_any (g : Gt) (w : World) (h : GK w g) : Calls Try.prog 24 #[encG g] w fun e w' => e = .returned (.bool (okGB g)) ∧ Below w.heap.size w w' := by
  have HK := Lib.hid h
  clear h
  by_cases hok : okG g
  · rw [okGB_t hok]
    obtain ⟨m, f, t, u, ka, kn, kc, kb, ko, ks⟩ := g
    obtain ⟨⟨h1, h2⟩, h3, h4, h5, h6, h7, h8, h9⟩ := hok
    dsimp only at h1 h2 h3 h4 h5 h6 h7 h8 h9
    unfold encG
    dsimp only
    have hc := chkC_yes h9
    have h8' : (0 : Int) < (kn : Int) := by omega
    have HC := Lib.hid h9; clear h9
    go_enter Try.func24, Try.ntmps24
    go_wp2_with (go_at_call 31; refine (rccheck_any ka kb ko kn kc ks _ (HK.out.ks.grown ((Below.refl _ _).alloc (Nat.le_refl _) _)) HK.out.n9).mono ?_; rintro e w2 ⟨rfl, hb⟩; rw [hc]; have HB2 := Lib.hid (below_after ((Below.refl w.heap.size w).alloc (Nat.le_refl _) _) hb (by simp)); clear hb)
    all_goals go_ret
    all_goals first
      | exact ⟨rfl, HB2.out⟩
      | (exfalso; omega)
  · rw [okGB_f hok]
    obtain ⟨m, f, t, u, ka, kn, kc, kb, ko, ks⟩ := g
    unfold okG at hok
    dsimp only at hok
    have HN := Lib.hid hok
    clear hok
    unfold encG
    dsimp only
    go_enter Try.func24, Try.ntmps24
    go_wp2_with (go_at_call 31; refine (rccheck_any ka kb ko kn kc ks _ (HK.out.ks.grown ((Below.refl _ _).alloc (Nat.le_refl _) _)) HK.out.n9).mono ?_; rintro e w2 ⟨rfl, hb⟩; rw [chkC_no (fun c => HN.out ⟨⟨by omega, by omega⟩, by omega, by omega, by omega, by omega, by omega, by omega, c⟩)]; have HB2 := Lib.hid (below_after ((Below.refl w.heap.size w).alloc (Nat.le_refl _) _) hb (by simp)); clear hb)
    all_goals go_ret
    all_goals first
      | exact ⟨rfl, HB2.out⟩
      | exact ⟨rfl, (Below.refl _ _).alloc (Nat.le_refl _) _⟩

set_option maxRecDepth 100000 in
set_option maxHeartbeats 4000000 in
theorem rgcheck_any (a : Option Addr) (b off n cap : Nat) (l : List Gt) (w : World) (h : Gs w a n b off l) (hn : n ≤ 9223372036854775807) :
    Calls Try.prog 15 #[.slice a n cap] w fun e w' => e = .returned (.int .i64 (chkG l)) ∧ Below w.heap.size w w' := by
  have hl := h.1
  have HK := Lib.hid h
  clear h
  go_enter Try.func15, Try.ntmps15
  go_wp2
  go_loopw [3] (fun i wr => ∃ k : Nat, k ≤ n ∧ k ≤ 64 ∧ i = .int .i64 k ∧ okGs l k ∧ Below w.heap.size w wr) (fun i _ => n - (intOf i).toNat)
  case atStart => exact ⟨0, Nat.zero_le _, by omega, rfl, fun i hi => by omega, Below.refl _ _⟩
  case round =>
    obtain ⟨k, hk, hk64, rfl, hok, hB⟩ := hrel
    by_cases hlt : k < n
    case neg =>
      obtain rfl : k = n := by omega
      have EB := Lib.hid (chkG_yes (l := l) ⟨by omega, by rw [hl]; exact hok⟩)
      clear hok
      go_wp2
      go_ret
      exact ⟨by rw [EB.out]; rfl, hB⟩
    obtain ⟨rfl, hbw⟩ := HK.out.2.1 (by omega)
    by_cases h64 : k = 64
    · have e : chkG l = 120 := chkG_no fun g => by have := g.1; omega
      have i64 : (64 : Int) ≤ (k : Int) := by omega
      clear hok
      have H64 := Lib.hid h64; clear h64
      go_wp2
      go_ret
      exact ⟨by rw [e]; rfl, hB⟩
    obtain ⟨⟨c0, c1, c2, c3, c4⟩, hGK⟩ := (HK.out.grown hB).2.2 k hlt
    have hz := hB.size
    have i64 : (k : Int) < (64 : Int) := by omega
    have hsucc := okGs_succ l k
    have hbad : ¬ okG (nthG l k) → chkG l = 120 := fun hx => chkG_no fun g => hx (g.2 k (by rw [hl]; exact hlt))
    generalize hg : nthG l k = g at *
    have HG := Lib.hid (show _ ∧ _ ∧ _ ∧ _ ∧ _ from ⟨hok, hGK, hB, hsucc, hbad⟩)
    clear hok hGK hsucc hbad hB hg h64
    obtain ⟨m, f, t, u, ka, kn, kc, kb, ko, ks⟩ := g
    dsimp only at c0 c1 c2 c3 c4
    by_cases hok2 : okG ⟨m, f, t, u, ka, kn, kc, kb, ko, ks⟩
    · have e2 := okGB_t hok2
      have HO2 := Lib.hid hok2; clear hok2
      go_wp2_with fail
      refine (rgvalid_any ⟨m, f, t, u, ka, kn, kc, kb, ko, ks⟩ _ HG.out.2.1).mono ?_; rintro e w2 ⟨rfl, hb⟩; rw [e2]
      have HB2 := Lib.hid (below_after HG.out.2.2.1 hb hz)
      clear hb e2
      go_wp2
      go_roundw
      case rel => exact ⟨k + 1, by omega, by omega, by go_num, HG.out.2.2.2.1.2 ⟨HG.out.1, HO2.out⟩, HB2.out⟩
      case measure => simp [intOf]; omega
    · have e2 := okGB_f hok2
      have HO2 := Lib.hid (HG.out.2.2.2.2 hok2); clear hok2
      go_wp2_with fail
      refine (rgvalid_any ⟨m, f, t, u, ka, kn, kc, kb, ko, ks⟩ _ HG.out.2.1).mono ?_; rintro e w2 ⟨rfl, hb⟩; rw [e2]
      have HB2 := Lib.hid (below_after HG.out.2.2.1 hb hz)
      clear hb e2
      go_wp2
      go_ret
      exact ⟨by rw [HO2.out]; rfl, HB2.out⟩

def FewG (n : Nat) (e : Ending) : Prop := e = .returned (.bool false) ∨ (e = .returned (.bool true) ∧ n ≤ 70)
set_option maxHeartbeats 4000000 in
theorem rgfew_any (a : Option Addr) (b off n cap : Nat) (l : List Gt) (w : World) (h : Gs w a n b off l) (hn : n ≤ 9223372036854775807) :
    Calls Try.prog 11 #[.slice a n cap] w fun e w' => FewG n e ∧ w = w' := by
  have HK := Lib.hid h
  clear h
  by_cases h70 : n ≤ 70
  case neg =>
    have d : decide ((70 : Int) < (n : Int)) = true := decide_eq_true (by omega)
    go_enter Try.func11, Try.ntmps11
    go_wp2
    go_ret
    exact ⟨.inl rfl, rfl⟩
  have d : decide ((70 : Int) < (n : Int)) = false := decide_eq_false (by omega)
  go_enter Try.func11, Try.ntmps11
  go_wp2
  go_loop [3, 4] (fun s i => ∃ (k : Nat) (q : Int), k ≤ n ∧ i = .int .i64 k ∧ s = .int .i64 q) (fun _ i => n - (intOf i).toNat)
  case atStart => exact ⟨0, 0, Nat.zero_le _, rfl, rfl⟩
  case round =>
    obtain ⟨k, q, hk, rfl, rfl⟩ := hrel
    by_cases hlt : k < n
    case neg =>
      obtain rfl : k = n := by omega
      by_cases hq : q ≤ 400
      · go_wp2
        go_ret
        exact ⟨.inr ⟨rfl, h70⟩, rfl⟩
      · go_wp2
        go_ret
        exact ⟨.inl rfl, rfl⟩
    obtain ⟨rfl, hbw⟩ := HK.out.2.1 (by omega)
    obtain ⟨⟨c0, c1, c2, c3, c4⟩, _⟩ := HK.out.2.2 k hlt
    go_wp2
    go_round
    case rel => exact ⟨k + 1, _, by omega, by go_num, rfl⟩
    case measure => simp [intOf]; omega

set_option maxRecDepth 100000 in
set_option maxHeartbeats 16000000 in
theorem rmade_any (v p : Int) (g : Gt) (w : World) (h : GK w g) (hok : okG g) (v1 : -9223372036854775808 ≤ v) (v2 : v ≤ 9223372036854775807) :
    Calls Try.prog 28 #[.int .i64 v, encG g, .int .i64 p] w fun e w' => e = .returned (.int .i64 (made v g p)) ∧ Below w.heap.size w w' := by
  have HK := Lib.hid h
  clear h
  obtain ⟨mo, hmo⟩ : ∃ mo, mo = made v g p := ⟨_, rfl⟩
  rw [← hmo]
  have HM := Lib.hid hmo
  clear hmo
  unfold made chg at HM
  obtain ⟨m, f, t, u, ka, kn, kc, kb, ko, ks⟩ := g
  obtain ⟨⟨h1, h2⟩, h3, h4, h5, h6, h7, h8, h9⟩ := hok
  dsimp only at h1 h2 h3 h4 h5 h6 h7 h8 h9 HM
  unfold encG
  dsimp only
  have hB0 : Below w.heap.size w (w.alloc (.cells #[.int .i64 m, .int .i64 f, .int .i64 t, .int .i64 u, .slice ka kn kc] 38)) := (Below.refl _ _).alloc (Nat.le_refl _) _
  have HB0 := Lib.hid hB0; clear hB0
  have hvin := valC_in h9 (min p (t - 1))
  by_cases hin : f ≤ p ∧ p < u
  case neg =>
    have e := HM.out.trans (if_neg hin)
    subst e
    have hB := HB0.out
    clear HM HB0 hvin
    go_enter Try.func28, Try.ntmps28
    go_wp2
    all_goals first
      | (go_ret; exact ⟨rfl, hB⟩)
      | (exfalso; omega)
  have e := HM.out.trans (if_pos hin)
  clear HM
  have HC := Lib.hid h9
  have hmin : min p (t - 1) = if p ≤ t - 1 then p else t - 1 := by omega
  obtain ⟨q, hq⟩ : ∃ q, q = min p (t - 1) := ⟨_, rfl⟩
  rw [← hq] at e hvin
  generalize hy : valC ks q = y at *
  have HY := Lib.hid hy
  have HQ := Lib.hid hq
  have HE := Lib.hid e
  clear h9 hy hmin hq e
  obtain ⟨i1, i2⟩ := hin
  have r1 : ¬ p < f := by omega
  have r2 : ¬ u ≤ p := by omega
  rcases Int.lt_trichotomy p (t - 1) with hpt | hpt | hpt
  · have q1 : q = p := by have := HQ.out; omega
    subst q1
    have hp2 : q ≤ t - 1 := by omega
    have hp3 : ¬ t - 1 ≤ q := by omega
    go_enter Try.func28, Try.ntmps28
    by_cases hm3 : m = 3
    · have e3 := HE.out.trans (if_pos hm3)
      subst hm3 e3
      go_wp2_with (first | (go_at_call 36; refine (rcvalue_any ka kb ko kn kc ks _ _ (HK.out.ks.grown HB0.out) HK.out.n9).mono ?_; rintro e w2 ⟨rfl, hb⟩; rw [chkC_yes HC.out, valV_yes HC.out, HY.out]; have HB2 := Lib.hid (below_after HB0.out hb HB0.out.size); have n2 := blk_cell (blk_below (blk_new w _) hb (by simp)) 0; simp at n2; clear hb) | (go_at_call 37; refine (radd_any _ _ _ (by omega) (by omega) (by omega) (by omega)).mono ?_; rintro e w' ⟨rfl, rfl⟩))
      go_ret
      exact ⟨rfl, HB2.out⟩
    · have e3 := HE.out.trans (if_neg hm3)
      subst e3
      go_wp2_with (go_at_call 36; refine (rcvalue_any ka kb ko kn kc ks _ _ (HK.out.ks.grown HB0.out) HK.out.n9).mono ?_; rintro e w2 ⟨rfl, hb⟩; rw [chkC_yes HC.out, valV_yes HC.out, HY.out]; have HB2 := Lib.hid (below_after HB0.out hb HB0.out.size); have n2 := blk_cell (blk_below (blk_new w _) hb (by simp)) 0; simp at n2; clear hb)
      go_ret
      exact ⟨rfl, HB2.out⟩
  · have q1 : q = t - 1 := by have := HQ.out; omega
    subst q1 hpt
    go_enter Try.func28, Try.ntmps28
    by_cases hm3 : m = 3
    · have e3 := HE.out.trans (if_pos hm3)
      subst hm3 e3
      go_wp2_with (first | (go_at_call 36; refine (rcvalue_any ka kb ko kn kc ks _ _ (HK.out.ks.grown HB0.out) HK.out.n9).mono ?_; rintro e w2 ⟨rfl, hb⟩; rw [chkC_yes HC.out, valV_yes HC.out, HY.out]; have HB2 := Lib.hid (below_after HB0.out hb HB0.out.size); have n2 := blk_cell (blk_below (blk_new w _) hb (by simp)) 0; simp at n2; clear hb) | (go_at_call 37; refine (radd_any _ _ _ (by omega) (by omega) (by omega) (by omega)).mono ?_; rintro e w' ⟨rfl, rfl⟩))
      go_ret
      exact ⟨rfl, HB2.out⟩
    · have e3 := HE.out.trans (if_neg hm3)
      subst e3
      go_wp2_with (go_at_call 36; refine (rcvalue_any ka kb ko kn kc ks _ _ (HK.out.ks.grown HB0.out) HK.out.n9).mono ?_; rintro e w2 ⟨rfl, hb⟩; rw [chkC_yes HC.out, valV_yes HC.out, HY.out]; have HB2 := Lib.hid (below_after HB0.out hb HB0.out.size); have n2 := blk_cell (blk_below (blk_new w _) hb (by simp)) 0; simp at n2; clear hb)
      go_ret
      exact ⟨rfl, HB2.out⟩
  · have q1 : q = t - 1 := by have := HQ.out; omega
    subst q1
    have hp2 : t - 1 ≤ p := by omega
    have hp3 : ¬ p ≤ t - 1 := by omega
    clear r1 r2
    have r1 : decide (p < f) = false := by simpa using i1
    have r2 : decide (u ≤ p) = false := by simpa using i2
    clear i1 i2
    go_enter Try.func28, Try.ntmps28
    by_cases hm3 : m = 3
    · have e3 := HE.out.trans (if_pos hm3)
      subst hm3 e3
      go_wp2_with (first | (go_at_call 36; refine (rcvalue_any ka kb ko kn kc ks _ _ (HK.out.ks.grown HB0.out) HK.out.n9).mono ?_; rintro e w2 ⟨rfl, hb⟩; rw [chkC_yes HC.out, valV_yes HC.out, HY.out]; have HB2 := Lib.hid (below_after HB0.out hb HB0.out.size); have n2 := blk_cell (blk_below (blk_new w _) hb (by simp)) 0; simp at n2; clear hb) | (go_at_call 37; refine (radd_any _ _ _ (by omega) (by omega) (by omega) (by omega)).mono ?_; rintro e w' ⟨rfl, rfl⟩))
      go_ret
      exact ⟨rfl, HB2.out⟩
    · have e3 := HE.out.trans (if_neg hm3)
      subst e3
      go_wp2_with (go_at_call 36; refine (rcvalue_any ka kb ko kn kc ks _ _ (HK.out.ks.grown HB0.out) HK.out.n9).mono ?_; rintro e w2 ⟨rfl, hb⟩; rw [chkC_yes HC.out, valV_yes HC.out, HY.out]; have HB2 := Lib.hid (below_after HB0.out hb HB0.out.size); have n2 := blk_cell (blk_below (blk_new w _) hb (by simp)) 0; simp at n2; clear hb)
      go_ret
      exact ⟨rfl, HB2.out⟩
end Go.Proofs.Ytmblkmllamccnaa
