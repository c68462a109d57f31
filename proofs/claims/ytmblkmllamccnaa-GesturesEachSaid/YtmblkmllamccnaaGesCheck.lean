/- The contracts of valid and Check of gestures (layer 12), the program's and the reference's. -/
import Derived.Test.YtmblkmllamccnaaGesLeaf
import Derived.Test.YtmblkmllamccnaaCrvRVal
namespace Go.Proofs.Ytmblkmllamccnaa
open Go.ChangeShapes Go.WideShapes Go.ChangeAt Go.RowKit

set_option maxRecDepth 100000 in
set_option maxHeartbeats 4000000 in
theorem gvalid_any (g : Gt) (w : World) (h : GK w g) : Calls Try.prog 23 #[encG g] w fun e w' => e = .returned (.bool (okGB g)) ∧ Below w.heap.size w w' := by
  have HK := Lib.hid h
  clear h
  by_cases hok : okG g
  · rw [okGB_t hok]
    obtain ⟨m, f, t, u, ka, kn, kc, kb, ko, ks⟩ := g
    obtain ⟨⟨h1, h2⟩, h3, h4, h5, h6, h7, h8, h9⟩ := hok
    dsimp only at h1 h2 h3 h4 h5 h6 h7 h8 h9
    unfold encG
    dsimp only
    have hw := within_t (v := m) (lo := 1) (hi := 3) ⟨h1, h2⟩
    have hc := chkC_yes h9
    have h8' : (0 : Int) < (kn : Int) := by omega
    have HC := Lib.hid h9; clear h9
    go_enter Try.func23, Try.ntmps23
    go_wp2_with (first | (go_at_call 29; refine (within_any _ _ _ _).mono ?_; rintro e w' ⟨rfl, rfl⟩; rw [hw]) | (go_at_call 30; refine (ccheck_any ka kb ko kn kc ks _ (HK.out.ks.grown ((Below.refl _ _).alloc (Nat.le_refl _) _)) HK.out.n9 HK.out.nc HK.out.lc).mono ?_; rintro e w2 ⟨rfl, hb⟩; rw [hc]; have HB2 := Lib.hid (below_after ((Below.refl w.heap.size w).alloc (Nat.le_refl _) _) hb (by simp)); clear hb))
    all_goals go_ret
    all_goals first
      | exact ⟨rfl, HB2.out⟩
      | (exfalso; omega)
  · rw [okGB_f hok]
    obtain ⟨m, f, t, u, ka, kn, kc, kb, ko, ks⟩ := g
    unfold okG at hok
    dsimp only at hok
    have HN := Lib.hid hok
    clear hok
    unfold encG
    dsimp only
    by_cases hm : 1 ≤ m ∧ m ≤ 3
    case neg =>
      have hw := within_f (v := m) (lo := 1) (hi := 3) hm
      go_enter Try.func23, Try.ntmps23
      go_wp2_with (go_at_call 29; refine (within_any _ _ _ _).mono ?_; rintro e w' ⟨rfl, rfl⟩; rw [hw])
      go_ret
      exact ⟨rfl, (Below.refl _ _).alloc (Nat.le_refl _) _⟩
    have hw := within_t (v := m) (lo := 1) (hi := 3) hm
    go_enter Try.func23, Try.ntmps23
    go_wp2_with (first | (go_at_call 29; refine (within_any _ _ _ _).mono ?_; rintro e w' ⟨rfl, rfl⟩; rw [hw]) | (go_at_call 30; refine (ccheck_any ka kb ko kn kc ks _ (HK.out.ks.grown ((Below.refl _ _).alloc (Nat.le_refl _) _)) HK.out.n9 HK.out.nc HK.out.lc).mono ?_; rintro e w2 ⟨rfl, hb⟩; rw [chkC_no (fun c => HN.out ⟨hm, by omega, by omega, by omega, by omega, by omega, by omega, c⟩)]; have HB2 := Lib.hid (below_after ((Below.refl w.heap.size w).alloc (Nat.le_refl _) _) hb (by simp)); clear hb))
    all_goals go_ret
    all_goals first
      | exact ⟨rfl, HB2.out⟩
      | exact ⟨rfl, (Below.refl _ _).alloc (Nat.le_refl _) _⟩

set_option maxRecDepth 100000 in
set_option maxHeartbeats 4000000 in
theorem gcheck_any (a : Option Addr) (b off n cap : Nat) (l : List Gt) (w : World) (h : Gs w a n b off l) (hn : n ≤ 9223372036854775807) :
    Calls Try.prog 14 #[.slice a n cap] w fun e w' => e = .returned (.int .i64 (chkG l)) ∧ Below w.heap.size w w' := by
  have hl := h.1
  have HK := Lib.hid h
  clear h
  by_cases h64 : n ≤ 64
  case neg =>
    have e : chkG l = 120 := chkG_no fun g => by have := g.1; omega
    have d : decide ((64 : Int) < (n : Int)) = true := decide_eq_true (by omega)
    go_enter Try.func14, Try.ntmps14
    go_wp2
    go_ret
    exact ⟨by rw [e]; rfl, Below.refl _ _⟩
  have d : decide ((64 : Int) < (n : Int)) = false := decide_eq_false (by omega)
  go_enter Try.func14, Try.ntmps14
  go_wp2
  go_loopw [10] (fun i wr => ∃ k : Nat, k ≤ n ∧ i = .int .i64 k ∧ okGs l k ∧ Below w.heap.size w wr) (fun i _ => n - (intOf i).toNat)
  case atStart => exact ⟨0, Nat.zero_le _, rfl, fun i hi => by omega, Below.refl _ _⟩
  case round =>
    obtain ⟨k, hk, rfl, hok, hB⟩ := hrel
    by_cases hlt : k < n
    case neg =>
      obtain rfl : k = n := by omega
      have EB := Lib.hid (chkG_yes (l := l) ⟨by omega, by rw [hl]; exact hok⟩)
      clear hok
      go_wp2
      go_ret
      exact ⟨by rw [EB.out]; rfl, hB⟩
    obtain ⟨rfl, hbw⟩ := HK.out.2.1 (by omega)
    obtain ⟨⟨c0, c1, c2, c3, c4⟩, hGK⟩ := (HK.out.grown hB).2.2 k hlt
    have hz := hB.size
    have hsucc := okGs_succ l k
    have hbad : ¬ okG (nthG l k) → chkG l = 120 := fun hx => chkG_no fun g => hx (g.2 k (by rw [hl]; exact hlt))
    generalize hg : nthG l k = g at *
    have HG := Lib.hid (show _ ∧ _ ∧ _ ∧ _ ∧ _ from ⟨hok, hGK, hB, hsucc, hbad⟩)
    clear hok hGK hsucc hbad hB hg
    obtain ⟨m, f, t, u, ka, kn, kc, kb, ko, ks⟩ := g
    dsimp only at c0 c1 c2 c3 c4
    have hBX : Below wr.heap.size wr (wr.alloc (.cells #[.int .i64 m, .int .i64 f, .int .i64 t, .int .i64 u, .slice ka kn kc] 38)) := (Below.refl _ _).alloc (Nat.le_refl _) _
    have HX := Lib.hid hBX; clear hBX
    by_cases hok2 : okG ⟨m, f, t, u, ka, kn, kc, kb, ko, ks⟩
    · have e2 := okGB_t hok2
      have HO2 := Lib.hid hok2; clear hok2
      go_wp2_with fail
      refine (gvalid_any ⟨m, f, t, u, ka, kn, kc, kb, ko, ks⟩ _ (HG.out.2.1.grown HX.out)).mono ?_; rintro e w2 ⟨rfl, hb⟩; rw [e2]
      have HB2 := Lib.hid (below_after (below_after HG.out.2.2.1 HX.out hz) hb (by simp; omega))
      clear hb e2
      go_wp2
      go_roundw
      case rel => exact ⟨k + 1, by omega, by go_num, HG.out.2.2.2.1.2 ⟨HG.out.1, HO2.out⟩, HB2.out⟩
      case measure => simp [intOf]; omega
    · have e2 := okGB_f hok2
      have HO2 := Lib.hid (HG.out.2.2.2.2 hok2); clear hok2
      go_wp2_with fail
      refine (gvalid_any ⟨m, f, t, u, ka, kn, kc, kb, ko, ks⟩ _ (HG.out.2.1.grown HX.out)).mono ?_; rintro e w2 ⟨rfl, hb⟩; rw [e2]
      have HB2 := Lib.hid (below_after (below_after HG.out.2.2.1 HX.out hz) hb (by simp; omega))
      clear hb e2
      go_wp2
      go_ret
      exact ⟨by rw [HO2.out]; rfl, HB2.out⟩
end Go.Proofs.Ytmblkmllamccnaa
