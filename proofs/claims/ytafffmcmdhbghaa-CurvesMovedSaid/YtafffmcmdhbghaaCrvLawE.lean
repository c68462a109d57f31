/- The walk of CurvesMoved (layer 11). -/
import Derived.Test.YtafffmcmdhbghaaCrvSane
namespace Go.Proofs.Ytafffmcmdhbghaa
open Go.ChangeShapes Go.WideShapes Go.ChangeAt Go.RowKit

/-- The first k knots, moved. -/
def movK (by' : Int) (l : List Kt) (k : Nat) : List Kt := (List.range l.length).map fun i => if i < k then ((nthK l i).1 + by', (nthK l i).2) else nthK l i
theorem movK_len (by' : Int) (l : List Kt) (k : Nat) : (movK by' l k).length = l.length := by simp [movK]
theorem movK_nth {by' : Int} {l : List Kt} {k i : Nat} (h : i < l.length) : nthK (movK by' l k) i = if i < k then ((nthK l i).1 + by', (nthK l i).2) else nthK l i := by
  unfold nthK movK
  simp [List.getD_eq_getElem?_getD, h, nthK]
theorem movK_zero (by' : Int) (l : List Kt) : movK by' l 0 = l := by
  apply List.ext_getElem?
  intro i
  by_cases h : i < l.length
  · simp [movK, h, nthK, List.getD_eq_getElem?_getD]
  · simp [movK, h]
theorem movK_succ {by' : Int} {l : List Kt} {k : Nat} (h : k < l.length) : (movK by' l k).set k ((nthK l k).1 + by', (nthK l k).2) = movK by' l (k + 1) := by
  apply List.ext_getElem?
  intro i
  rw [List.getElem?_set]
  by_cases hi : i < l.length
  · by_cases e : k = i
    · subst e; simp [movK, hi]
    · rw [if_neg e]
      have : (i < k) ↔ (i < k + 1) := by omega
      simp [movK, hi, this]
  · have : ¬ k = i := by omega
    rw [if_neg this]; simp [movK, hi]
theorem movC (by' : Int) (l : List Kt) (at' : Int) : valC (movK by' l l.length) (at' + by') = valC l at' := by
  have hc : ∀ n, n ≤ l.length → cnt (movK by' l l.length) (at' + by') n = cnt l at' n := by
    intro n
    induction n with
    | zero => intro _; rfl
    | succ n ih =>
      intro hn
      unfold cnt
      rw [movK_nth (by omega), if_pos (show n < l.length by omega), ih (by omega)]
      dsimp only
      by_cases h : (nthK l n).1 ≤ at'
      · rw [if_pos h, if_pos (by omega)]
      · rw [if_neg h, if_neg (by omega)]
  unfold valC valP
  rw [movK_len, hc _ (Nat.le_refl _)]
  have hle := cnt_le l at' l.length
  generalize cnt l at' l.length = p at *
  by_cases h0 : l.length = 0
  · rw [if_pos h0, if_pos h0]
  rw [if_neg h0, if_neg h0]
  by_cases hp : p = 0
  · rw [if_pos hp, if_pos hp, movK_nth (by omega), if_pos (by omega)]
  rw [if_neg hp, if_neg hp]
  by_cases hl : p = l.length
  · rw [if_pos hl, if_pos hl, movK_nth (by omega), if_pos (by omega)]
  rw [if_neg hl, if_neg hl, movK_nth (i := p - 1) (by omega), if_pos (by omega), movK_nth (i := p) (by omega), if_pos (by omega)]
  unfold segV
  dsimp only
  rw [show at' + by' - ((nthK l (p - 1)).1 + by') = at' - (nthK l (p - 1)).1 by omega, show (nthK l p).1 + by' - ((nthK l (p - 1)).1 + by') = (nthK l p).1 - (nthK l (p - 1)).1 by omega]

theorem vals_at {l : List Kt} {f : Int} {M k : Nat} (h : k < M) : (vals l f M).getD k 0 = valC l (f + (k : Int)) := by
  unfold vals
  simp [List.getD_eq_getElem?_getD, h]

set_option maxRecDepth 100000 in
set_option maxHeartbeats 8000000 in
theorem curvesMoved_walk (a : Option Addr) (b off n cap : Nat) (l : List Kt) (by' f N : Int) (w : World) (hM : Ks w a n b off l) (hn : n ≤ 9223372036854775807) (hnc : a = none → cap = 0) (hlc : n ≤ cap) :
    Calls Try.prog 9 #[.slice a n cap, .int .i64 by', .int .i64 f, .int .i64 N] w fun e w' => e = .returned (.bool true) ∧ Below w.heap.size w w' := by
  have hl := hM.1
  have HM := Lib.hid hM
  clear hM
  go_enter Try.func9, Try.ntmps9
  go_wp2_with fail
  refine (sane_any w).mono ?_; rintro e w1 ⟨rfl, hB⟩
  go_wp2_with fail
  refine (rfew_any a n cap w1).mono ?_; rintro e w' ⟨rfl, rfl⟩
  by_cases hf : (n : Int) ≤ 1100
  case neg =>
    rw [decide_eq_false hf]
    go_wp2
    go_ret
    exact ⟨rfl, hB⟩
  rw [decide_eq_true hf]
  by_cases q1 : N < 0
  · have z1 : decide (N < 0) = true := decide_eq_true q1
    go_wp2
    go_ret
    exact ⟨rfl, hB⟩
  have z1 : decide (N < 0) = false := decide_eq_false q1
  by_cases q2 : 100 < N
  · go_wp2
    go_ret
    exact ⟨rfl, hB⟩
  by_cases q3 : by' < -1099511627776
  · go_wp2
    go_ret
    exact ⟨rfl, hB⟩
  by_cases q4 : 1099511627776 < by'
  · go_wp2
    go_ret
    exact ⟨rfl, hB⟩
  by_cases q5 : f < -1099511627776
  · go_wp2
    go_ret
    exact ⟨rfl, hB⟩
  by_cases q6 : 1099511627776 < f
  · go_wp2
    go_ret
    exact ⟨rfl, hB⟩
  obtain ⟨M, rfl⟩ : ∃ M : Nat, N = M := ⟨N.toNat, by omega⟩
  have HB := Lib.hid hB
  by_cases hc : Curve l
  case neg =>
    go_wp2_with fail
    refine (cvalues_any a b off n cap l f M _ (HM.out.grown HB.out) hn hnc hlc).mono ?_; rintro e w2 ⟨hR, hb⟩
    obtain rfl := vals_bad hR (valsE_no hc) (by decide)
    clear hR
    go_wp2
    go_ret
    exact ⟨rfl, below_after HB.out hb HB.out.size⟩
  go_wp2_with fail
  refine (cvalues_any a b off n cap l f M _ (HM.out.grown HB.out) hn hnc hlc).mono ?_; rintro e w2 ⟨hR, hb⟩
  obtain ⟨v2, rfl, hO⟩ := vals_get (n := M) hR hc (by omega) (by omega) rfl
  obtain ⟨a2, b2, c2, rfl, R2, -, -⟩ := hO.row
  have hB2 := below_after HB.out hb HB.out.size
  rw [vals_len] at R2 ⊢
  have HC := Lib.hid (show _ ∧ _ ∧ _ from ⟨hc, R2, hB2⟩)
  clear hR hO hc R2 hB2 hb hB z1
  have q2' : (M : Int) ≤ 100 := by omega
  have HQ := Lib.hid (show _ ∧ _ ∧ _ ∧ _ ∧ _ from ⟨q2, q3, q4, q5, q6⟩)
  go_wp2
  go_loopw [70] (fun i wr => ∃ k : Nat, k ≤ M ∧ i = .int .i64 k ∧ Row wr a2 b2 0 M (vals l f M) ∧ Below w.heap.size w wr) (fun i _ => M - (intOf i).toNat)
  case atStart => exact ⟨0, Nat.zero_le _, rfl, HC.out.2.1, HC.out.2.2⟩
  case round =>
    obtain ⟨k, hk, rfl, hR, hB⟩ := hrel
    have HR := Lib.hid (show _ ∧ _ from ⟨hR, hB⟩)
    clear hR hB
    by_cases hlt : k < M
    · obtain rfl := HR.out.1.adr (by omega)
      have i2 : (k : Int) < (M : Int) := by omega
      have uf : IntKind.i64.wrap (f + (k : Int)) = f + (k : Int) := wrap_id (by omega)
      have uk : IntKind.i64.wrap ((k : Int) + 1) = (k : Int) + 1 := wrap_id (by omega)
      have ev := valV_yes HC.out.1 (f + (k : Int))
      have ec := chkC_yes HC.out.1
      clear q2 q3 q4 q5 q6 q2'
      go_wp2_with fail
      refine (cvalue_any a b off n cap l (f + (k : Int)) _ (HM.out.grown HR.out.2) hn hnc hlc).mono ?_; rintro e w5 ⟨rfl, hb⟩; rw [ec, ev]
      have c0 := (HR.out.1.below hb (Nat.le_refl _)).cel k hlt
      rw [vals_at hlt, Nat.zero_add] at c0
      have HR5 := Lib.hid (show _ ∧ _ from ⟨HR.out.1.below hb (Nat.le_refl _), below_after HR.out.2 hb HR.out.2.size⟩)
      clear hb ev ec
      generalize valC l (f + (k : Int)) = V at *
      go_wp2
      go_roundw
      case rel => exact ⟨k + 1, by omega, by go_num, HR5.out.1, HR5.out.2⟩
      case measure => simp [intOf] <;> omega
    obtain rfl : k = M := by omega
    have hcv := HC.out.1
    have HCV := Lib.hid hcv
    clear HC hcv
    generalize wr = W0 at *
    have hwr := HR.out.2.size
    clear q2 q3 q4 q5 q6 q2'
    go_wp2_with (at_builtin; refine wpList_append_Ks rfl _ _ rfl W0.heap.size _ [] rfl (KsO.empty W0) _ b off _ _ l rfl ((HM.out.grown HR.out.2).grown (by go_grown)) hnc (by simp; omega) (by simp) ?_; intro v1 w4 hO hB4 hG; clear hG; rw [List.nil_append, ← movK_zero by' l] at hO; obtain ⟨g, _, cg, hvv, _⟩ := hO.s; rw [movK_len, hl] at hvv; subst hvv; have HO := Lib.hid (show _ ∧ _ from ⟨hO, ((Below.refl W0.heap.size W0).alloc (Nat.le_refl _) _).trans hB4⟩); clear hO hB4)
    go_loopw [97] (fun i W => ∃ j : Nat, j ≤ n ∧ i = .int .i64 j ∧ KsO W W0.heap.size (.slice g n cg) (movK by' l j) ∧ Below W0.heap.size W0 W) (fun i _ => n - (intOf i).toNat)
    case atStart => exact ⟨0, Nat.zero_le _, rfl, HO.out.1, HO.out.2⟩
    case round =>
      obtain ⟨j, hj, rfl, hO, hB⟩ := hrel
      clear HO
      have hlm : (movK by' l j).length = n := by rw [movK_len, hl]
      by_cases hjt : j < n
      · obtain ⟨gg, c', hg, hgB⟩ := hO.inBlock hlm (by omega)
        simp only [Value.slice.injEq, true_and] at hg
        obtain ⟨rfl, rfl⟩ := hg
        have ok := (HCV.out.1.2 j (by omega)).1
        have k0 := ok.1; have k1 := ok.2.1
        have c5 := (hO.cellAt hlm (j * 5) (by omega)).trans (encLK_get (movK by' l j) j (by omega)).1
        have f5 := hO.freeAt hlm (j * 5)
        have eM : nthK (movK by' l j) j = nthK l j := by rw [movK_nth (by omega), if_neg (by omega)]
        rw [eM] at c5
        have i2 : (j : Int) < (n : Int) := by omega
        have uk : IntKind.i64.wrap ((j : Int) + 1) = (j : Int) + 1 := wrap_id (by omega)
        have ub : IntKind.i64.wrap ((nthK l j).1 + by') = (nthK l j).1 + by' := by have := HQ.out; exact wrap_id (by omega)
        have hst := hO.stored1 hlm j hjt ((nthK l j).1 + by')
        rw [eM, movK_succ (by omega)] at hst
        have HS := Lib.hid (show _ ∧ _ from ⟨hst, hB⟩)
        clear hO hB hst eM ok
        generalize (nthK l j).1 = T at *
        go_wp2
        go_roundw
        case rel => exact ⟨j + 1, by omega, by go_num, HS.out.1, HS.out.2.setCell (p := ⟨gg, j * 5, none⟩) (by show W0.heap.size ≤ gg; omega) _⟩
        case measure => simp [intOf] <;> omega
      obtain rfl : j = n := by omega
      obtain ⟨g3, b3, c3, hgv, hKm, _, hn3, hl3, _⟩ := hO.s
      rw [hlm] at hgv hKm hl3
      simp only [Value.slice.injEq, true_and] at hgv
      obtain ⟨rfl, rfl⟩ := hgv
      have HX := Lib.hid (show _ ∧ _ ∧ _ ∧ _ from ⟨hKm, hn3, hl3, hB⟩)
      clear hO hB hKm
      by_cases hc : Curve (movK by' l j)
      case neg =>
        go_wp2_with fail
        refine (rccheck_any g b3 0 _ cg _ _ HX.out.1 (by omega)).mono ?_; rintro e w5 ⟨rfl, hb⟩; rw [chkC_no hc]
        go_wp2
        go_ret
        exact ⟨rfl, below_after (HR.out.2.trans (HX.out.2.2.2.mono hwr)) hb (HR.out.2.trans (HX.out.2.2.2.mono hwr)).size⟩
      go_wp2_with fail
      refine (rccheck_any g b3 0 _ cg _ _ HX.out.1 (by omega)).mono ?_; rintro e w5 ⟨rfl, hb⟩; rw [chkC_yes hc]
      have hBw := HR.out.2.trans (HX.out.2.2.2.mono hwr)
      have HY := Lib.hid (show _ ∧ _ ∧ _ ∧ _ from ⟨hc, HX.out.1.grown hb, (HR.out.1.below HX.out.2.2.2 (Nat.le_refl _)).below hb (Nat.le_refl _), below_after hBw hb hBw.size⟩)
      clear hc hb hBw
      go_wp2
      go_loopw [115] (fun i W => ∃ q : Nat, q ≤ k ∧ i = .int .i64 q ∧ Ks W g j b3 0 (movK by' l j) ∧ Row W a2 b2 0 k (vals l f k) ∧ Below w.heap.size w W) (fun i _ => k - (intOf i).toNat)
      case atStart => exact ⟨0, Nat.zero_le _, rfl, HY.out.2.1, HY.out.2.2.1, HY.out.2.2.2⟩
      case round =>
        obtain ⟨q, hq, rfl, hK, hR, hB⟩ := hrel
        have HZ := Lib.hid (show _ ∧ _ ∧ _ from ⟨hK, hR, hB⟩)
        clear hK hR hB
        by_cases hqt : q < k
        · obtain rfl := HZ.out.2.1.adr (by omega)
          have i2 : (q : Int) < (k : Int) := by omega
          have u1 : IntKind.i64.wrap (f + by') = f + by' := by have := HQ.out; exact wrap_id (by omega)
          have u2 : IntKind.i64.wrap (f + by' + (q : Int)) = f + by' + (q : Int) := by have := HQ.out; exact wrap_id (by omega)
          have uk : IntKind.i64.wrap ((q : Int) + 1) = (q : Int) + 1 := wrap_id (by omega)
          have ev := valV_yes HY.out.1 (f + by' + (q : Int))
          have em : valC (movK by' l j) (f + by' + (q : Int)) = valC l (f + (q : Int)) := by
            rw [show f + by' + (q : Int) = (f + (q : Int)) + by' by omega, ← hl, movC]
          rw [em] at ev
          have ec := chkC_yes HY.out.1
          clear em
          go_wp2_with fail
          refine (cvalue_any g b3 0 j cg _ (f + by' + (q : Int)) _ HZ.out.1 (by omega) hn3 hl3).mono ?_; rintro e w6 ⟨rfl, hb⟩; rw [ec, ev]
          have c0 := (HZ.out.2.1.below hb (Nat.le_refl _)).cel q hqt
          rw [vals_at hqt, Nat.zero_add] at c0
          have HZ5 := Lib.hid (show _ ∧ _ ∧ _ from ⟨HZ.out.1.grown hb, HZ.out.2.1.below hb (Nat.le_refl _), below_after HZ.out.2.2 hb HZ.out.2.2.size⟩)
          clear hb ev ec
          generalize valC l (f + (q : Int)) = V at *
          go_wp2
          go_roundw
          case rel => exact ⟨q + 1, by omega, by go_num, HZ5.out.1, HZ5.out.2.1, HZ5.out.2.2⟩
          case measure => simp [intOf] <;> omega
        obtain rfl : q = k := by omega
        go_wp2
        go_ret
        exact ⟨rfl, HZ.out.2.2⟩
end Go.Proofs.Ytafffmcmdhbghaa
