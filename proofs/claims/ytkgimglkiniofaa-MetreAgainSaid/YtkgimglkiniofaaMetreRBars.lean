/- The reference's Bars (layer 10). -/
import Derived.Test.YtkgimglkiniofaaMetreRPlace
import Derived.Test.YtkgimglkiniofaaOwnRow
namespace Go.Proofs.Ytkgimglkiniofaa
open Go.ChangeShapes Go.WideShapes Go.ChangeAt Go.RowKit

/-- What Bars answers. -/
def bIsE (l : List Mt) (fr to : Int) : Int := barsE (allF l fr to (List.range l.length))
def bIs (l : List Mt) (fr to : Int) : List Int := barsR (allF l fr to (List.range l.length))
theorem bIs_le {l : List Mt} {fr to : Int} {X : List Int} (h : allF l fr to (List.range l.length) = X) (hx : X.length ≤ 4096) : bIsE l fr to = 0 ∧ bIs l fr to = X := by
  unfold bIsE bIs barsE barsR
  rw [h, if_pos hx, if_pos hx]
  exact ⟨rfl, rfl⟩
theorem bIs_gt {l : List Mt} {fr to : Int} (hx : 4096 < (allF l fr to (List.range l.length)).length) : bIsE l fr to = 2 ∧ bIs l fr to = [] := by
  unfold bIsE bIs barsE barsR
  rw [if_neg (by omega), if_neg (by omega)]
  exact ⟨rfl, rfl⟩

set_option maxHeartbeats 4000000 in
theorem rbars_ok (a : Option Addr) (b off len cap : Nat) (l : List Mt) (fr to : Int) (w : World) (hM : Ms w a len b off l) (hn : len ≤ 9223372036854775807) (hch : Changes l) (h1 : 0 ≤ fr) (h2 : fr ≤ to) (h3 : to ≤ 16777216) :
    Calls Try.prog 18 #[.slice a len cap, .int .i64 fr, .int .i64 to] w fun e w' => ∃ v, e = .returned (.tuple #[v, .int .i64 (bIsE l fr to)]) ∧ Ints w' w.heap.size v (bIs l fr to) ∧ Below w.heap.size w w' := by
  have HM := Lib.hid hM; clear hM
  have E0 := Lib.hid (chk_yes hch)
  have HCH := Lib.hid hch
  have bd := atK_bd hch h1 l.length (Nat.le_refl _)
  have ea := outK_at hch (fr := fr) (to := to) h1
  have HA := Lib.hid (show _ ∧ _ from ⟨ea, show atK l fr l.length = ((atK l fr l.length).toNat : Int) by omega⟩)
  obtain ⟨j0, hj0⟩ : ∃ j0, j0 = (atK l fr l.length).toNat := ⟨_, rfl⟩
  have hj1 : (j0 : Int) ≤ 17825793 := by omega
  have HJ := Lib.hid hj0
  clear hj0 bd ea hch
  have g0 : ¬ fr < 0 := by omega
  have g1 : ¬ to < fr := by omega
  have g2 : ¬ 16777216 < to := by omega
  go_enter Try.func18, Try.ntmps18
  go_wp2_with fail
  refine (rmcheck_any a len cap b off l _ HM.out hn).mono ?_; rintro e w2 ⟨rfl, hB⟩; rw [E0.out]
  go_wp2_with fail
  refine (rat_any a len cap b off l fr _ ((HM.out.grown hB).grown ((Below.refl _ _).alloc (Nat.le_refl _) _)) HCH.out h1 (by omega)).mono ?_; rintro e w3 ⟨rfl, hb⟩
  rw [HA.out.2, ← HJ.out]
  have hI : Ints w3 w.heap.size (.slice (some ⟨w2.heap.size, 0, none⟩) 0 0) (outK l fr to j0) := by
    rw [HJ.out, HA.out.1]
    exact ((Ints.empty w2).below hb (Nat.le_refl _)).mono hB.size
  replace hB := below_after (hB.alloc hB.size (.cells #[] 3)) hb (by have := hB.size; simp; omega)
  clear hb
  have HI := Lib.hid hI; clear hI
  have HB := Lib.hid hB; clear hB
  go_wp2
  go_loopw [8, 9] (fun v i wr => ∃ k : Nat, j0 ≤ k ∧ (k : Int) ≤ 17825793 ∧ i = .int .i64 k ∧ Ints wr w.heap.size v (outK l fr to k) ∧ (outK l fr to k).length ≤ 4096 ∧ Below w.heap.size w wr) (fun _ i _ => 17825793 - (intOf i).toNat)
  case atStart => exact ⟨j0, Nat.le_refl _, hj1, rfl, HI.out, by rw [HJ.out, HA.out.1]; simp, HB.out⟩
  case round =>
    obtain ⟨k, hk, hk1, rfl, hO, hL, hB⟩ := hrel
    by_cases hkb : (k : Int) ≤ 1048576
    case neg =>
      have g3 : ¬ (k : Int) ≤ 1048576 := hkb
      have eA : allF l fr to (List.range l.length) = outK l fr to k := by rw [allF_outK HCH.out]; exact outK_end HCH.out (.inl (by omega))
      obtain ⟨e1, e2⟩ := bIs_le eA hL
      have HE := Lib.hid (show _ ∧ _ from ⟨e1, e2⟩)
      have HO := Lib.hid (show _ ∧ _ from ⟨hO, hB⟩)
      clear hO hB eA e1 e2 hL
      go_wp2
      exact bodyPost_ret (by simp [results, Try.results18, go_sem]; rfl) rfl ⟨_, by rw [HE.out.1], by rw [HE.out.2]; exact HO.out.1, HO.out.2⟩
    case pos =>
    have bbd := beginK_bd HCH.out (bar := (k : Int)) (by omega) l.length (Nat.le_refl _)
    have hl64 := HCH.out.2.1
    have es := outK_succ l fr to (n := k) (by omega)
    have eN := fun h : to ≤ bg l k => outK_end HCH.out (fr := fr) (n := k) (.inr h)
    have eB : bg l k = beginK l k l.length := rfl
    obtain ⟨v0, c0, rfl⟩ := hO.isSlice
    have HO := Lib.hid (show _ ∧ _ from ⟨hO, hB⟩)
    clear hO hB
    go_wp2_with fail
    refine (begin_any a len cap b off l k _ (HM.out.grown HO.out.2) HCH.out (by omega) (by omega)).mono ?_; rintro e w4 ⟨rfl, hb⟩
    have hO := HO.out.1.below hb (Nat.le_refl _)
    have hB := below_after HO.out.2 hb HO.out.2.size
    clear hb HO
    rw [eB] at es eN
    obtain ⟨Bg, hBg⟩ : ∃ Bg, beginK l k l.length = Bg := ⟨_, rfl⟩
    rw [hBg] at es eN bbd eB ⊢
    have EB := Lib.hid hBg
    clear hBg
    have hip : inPart fr to Bg = decide (fr ≤ Bg ∧ Bg < to) := rfl
    generalize hXl : outK l fr to k = X at *
    by_cases q1 : Bg < to
    case neg =>
      have eA : allF l fr to (List.range l.length) = X := by rw [allF_outK HCH.out]; exact eN (by omega)
      obtain ⟨e1, e2⟩ := bIs_le eA hL
      have HE := Lib.hid (show _ ∧ _ from ⟨e1, e2⟩)
      have HO := Lib.hid (show _ ∧ _ from ⟨hO, hB⟩)
      clear hO hB eA e1 e2 hL es eN hip hXl
      go_wp2
      exact bodyPost_ret (by simp [results, Try.results18, go_sem]; rfl) rfl ⟨_, by rw [HE.out.1], by rw [HE.out.2]; exact HO.out.1, HO.out.2⟩
    go_wp2_with fail
    refine (begin_any a len cap b off l k _ (HM.out.grown hB) HCH.out (by omega) (by omega)).mono ?_; rintro e w4 ⟨rfl, hb⟩
    rw [EB.out]
    replace hO := hO.below hb (Nat.le_refl _)
    replace hB := below_after hB hb hB.size
    clear hb
    by_cases q2 : Bg < fr
    case pos =>
      rw [hip, decide_eq_false (by omega), if_neg (by simp), List.append_nil] at es
      have HO := Lib.hid (show _ ∧ _ ∧ _ ∧ _ from ⟨hO, hB, hL, es⟩)
      clear hO hB hL es eN hip hXl
      go_wp2
      go_roundw
      case rel => exact ⟨k + 1, by omega, by omega, by go_num, by rw [HO.out.2.2.2]; exact HO.out.1, by rw [HO.out.2.2.2]; exact HO.out.2.2.1, HO.out.2.1⟩
      case measure => simp [intOf]; omega
    rw [hip, decide_eq_true (by omega), if_pos rfl] at es
    by_cases q3 : X.length = 4096
    case pos =>
      have eA : 4096 < (allF l fr to (List.range l.length)).length := by
        rw [allF_outK HCH.out]
        have := outK_len (l := l) (fr := fr) (to := to) (show k + 1 ≤ 1048577 by omega)
        rw [es, List.length_append, q3] at this
        simp at this
        omega
      obtain ⟨e1, e2⟩ := bIs_gt eA
      have HE := Lib.hid (show _ ∧ _ from ⟨e1, e2⟩)
      have HO := Lib.hid (show _ ∧ _ from ⟨hO, hB⟩)
      clear hO hB eA e1 e2 hL es eN hip hXl
      have q4 : (X.length : Int) = 4096 := by omega
      go_wp2
      exact bodyPost_ret (by simp [results, Try.results18, go_sem]; rfl) rfl ⟨_, by rw [HE.out.1], by rw [HE.out.2]; exact Ints.nil _ _, HO.out.2⟩
    have q4 : ¬ (X.length : Int) = 4096 := by omega
    have HS := Lib.hid (show _ ∧ _ from ⟨es, HM⟩)
    have q5 : X.length < 4096 := by omega
    have hs := hB.size
    have HB := Lib.hid hB
    clear es eN hip hXl hL hB
    go_wp2_with (first | (go_at_call 23; refine (begin_any a len cap b off l k _ (HM.out.grown HB.out) HCH.out (by omega) (by omega)).mono ?_; rintro e w5 ⟨rfl, hb5⟩; rw [EB.out]; replace hO := hO.below hb5 (Nat.le_refl _); have HB5 := Lib.hid (below_after HB.out hb5 hs); have hs5 := Nat.le_trans hs hb5.size; clear hb5) | (at_builtin; refine wpList_append_int rfl _ _ rfl w.heap.size _ _ rfl (hO.alloc _) _ _ rfl _ _ (blk_new _ _) (by omega) (by simp; omega) ?_; intro v' w1 hO1 hB1 _))
    have HO1 := Lib.hid hO1; clear hO1
    go_roundw
    case rel => exact ⟨k + 1, by omega, by omega, by go_num, by rw [HS.out.1]; exact HO1.out, by rw [HS.out.1]; simp; omega, (HB5.out.alloc (by omega) _).trans hB1⟩
    case measure => simp [intOf]; omega
end Go.Proofs.Ytkgimglkiniofaa
