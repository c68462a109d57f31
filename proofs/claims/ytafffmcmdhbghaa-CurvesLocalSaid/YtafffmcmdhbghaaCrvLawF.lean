/- The walk of CurvesResolved (layer 11). -/
import Derived.Test.YtafffmcmdhbghaaCrvSane
import Derived.Test.YtafffmcmdhbghaaCrvRRes
namespace Go.Proofs.Ytafffmcmdhbghaa
open Go.ChangeShapes Go.WideShapes Go.ChangeAt Go.RowKit

theorem incr2 {most : Int} {l : List Kt} (h : Lane most l) : ∀ j i, i < j → j < l.length → (nthK l i).1 < (nthK l j).1 := by
  intro j
  induction j with
  | zero => intro i h; omega
  | succ j ih =>
    intro i hi hj
    have h1 := (h.2 (j + 1) hj).2 (by omega)
    simp only [Nat.add_sub_cancel] at h1
    by_cases e : i = j
    · subst e; exact h1
    · have := ih i (by omega) (by omega); omega
/-- At a knot a curve has its value. -/
theorem at_knot {l : List Kt} (h : Curve l) {p : Nat} (hp : p < l.length) : valC l (nthK l p).1 = (nthK l p).2.1 := by
  have hc : cnt l (nthK l p).1 l.length = p + 1 := by
    have key : ∀ n, p < n → n ≤ l.length → cnt l (nthK l p).1 n = p + 1 := by
      intro n
      induction n with
      | zero => intro h; omega
      | succ n ih =>
        intro h1 hn
        unfold cnt
        by_cases h2 : n = p
        · subst h2; rw [if_pos (by omega)]
        · rw [if_neg (by have := incr2 h.1 n p (by omega) (by omega); omega)]; exact ih (by omega) (by omega)
    exact key _ hp (Nat.le_refl _)
  unfold valC valP
  rw [hc, if_neg (by omega), if_neg (by omega)]
  by_cases h1 : p + 1 = l.length
  · rw [if_pos h1, Nat.add_sub_cancel]
  · rw [if_neg h1, Nat.add_sub_cancel]
    have hk := (h.1.2 p hp).1
    have hlt := incr2 h.1 (p + 1) p (by omega) (by omega)
    unfold segV
    by_cases s1 : (nthK l p).2.2.1 = 1
    · rw [if_pos s1]
    · rw [if_neg s1]
      have c0 : clip (nthK l p).2.1 = (nthK l p).2.1 := by unfold clip; have := hk.2.2.1; have := hk.2.2.2.1; omega
      have z : (nthK l p).1 - (nthK l p).1 = 0 := by omega
      by_cases s2 : (nthK l p).2.2.1 = 2
      · rw [if_pos s2]
        unfold lineV
        rw [z, c0]
        simp
      · rw [if_neg s2]
        unfold bendV
        rw [z, c0]
        have hs3 : (nthK l p).2.2.1 = 3 := by have := hk.2.2.2.2.1; have := hk.2.2.2.2.2.1; omega
        have hw := hk.2.2.2.2.2.2.1 hs3
        simp only [Int.mul_zero, Int.add_zero, Int.sub_zero]
        exact Int.mul_ediv_cancel _ (by
          have h1 : 1 * 1 ≤ (nthK l p).2.2.2.1 * ((nthK l (p + 1)).1 - (nthK l p).1) := Int.mul_le_mul hw.1 (by omega) (by omega) (by omega)
          omega)
theorem stays_mem {x : List Kt} {K : Nat} (hK : K < x.length) (hs : stB x x.length K = true) : ∃ p, p < (stays x).length ∧ nthK (stays x) p = nthK x K := by
  have hm : nthK x K ∈ stays x := List.mem_map.2 ⟨K, List.mem_filter.2 ⟨List.mem_range.2 hK, hs⟩, rfl⟩
  obtain ⟨p, hp, he⟩ := List.mem_iff_getElem.1 hm
  refine ⟨p, hp, ?_⟩
  rw [← he]
  unfold nthK
  simp [List.getD_eq_getElem?_getD, hp]
/-- The last knot from i on, before k, at the place of knot i. -/
def lastOf (m : List Tp) (l : List Kt) (i k K : Nat) : Prop := i ≤ K ∧ K < k ∧ smp m (nthK l K).1 = smp m (nthK l i).1 ∧ ∀ j, K < j → j < k → smp m (nthK l j).1 ≠ smp m (nthK l i).1
theorem lastOf_val {m : List Tp} {l : List Kt} {i K : Nat} (h : lastOf m l i l.length K) (hc : Curve (stays (mvL m l))) : valC (stays (mvL m l)) (smp m (nthK l i).1) = (nthK l K).2.1 := by
  obtain ⟨h1, h2, h3, h4⟩ := h
  have hx : (mvL m l).length = l.length := mvL_len m l
  obtain ⟨p, hp, he⟩ := stays_mem (x := mvL m l) (K := K) (by omega) (by
    unfold stB
    rw [decide_eq_true_eq, hx]
    by_cases e : K + 1 = l.length
    · exact .inl e
    · refine .inr ?_
      rw [mvL_nth (by omega), mvL_nth (by omega)]
      dsimp only
      rw [h3]
      exact h4 (K + 1) (by omega) (by omega))
  rw [mvL_nth h2] at he
  have := at_knot hc hp
  rw [he] at this
  dsimp only at this
  rw [← h3]
  exact this
theorem resE_zero {m : List Tp} {l : List Kt} (h : resE m l = 0) : Map m ∧ Lane 16777216 l ∧ inPos m l l.length := by
  by_cases h1 : Map m
  · by_cases h2 : Lane 16777216 l
    · by_cases h3 : inPos m l l.length
      · exact ⟨h1, h2, h3⟩
      · rw [resE_pos h1 h2 h3] at h; omega
    · rw [resE_lane h1 h2] at h; omega
  · rw [resE_map h1] at h; omega

set_option maxRecDepth 100000 in
set_option maxHeartbeats 8000000 in
theorem curvesResolved_walk (ma : Option Addr) (mb moff mn mcap : Nat) (m : List Tp) (a : Option Addr) (b off n cap : Nat) (l : List Kt) (w : World) (hT : Ts w ma mn mb moff m) (hmn : mn ≤ 9223372036854775807) (hmb : 0 < mn → ∃ c tb fr, w.heap[mb]? = some (.cells c tb fr)) (hM : Ks w a n b off l) (hn : n ≤ 9223372036854775807) (hnc : a = none → cap = 0) :
    Calls Try.prog 10 #[.slice ma mn mcap, .slice a n cap] w fun e w' => e = .returned (.bool true) ∧ Below w.heap.size w w' := by
  have hl := hM.1
  have HM := Lib.hid (show _ ∧ _ ∧ _ from ⟨hT, hmb, hM⟩)
  clear hM hT hmb
  go_enter Try.func10, Try.ntmps10
  go_wp2_with fail
  refine (sane_any w).mono ?_; rintro e w1 ⟨rfl, hB⟩
  by_cases q0 : (40 : Int) < (n : Int)
  · go_wp2
    go_ret
    exact ⟨rfl, hB⟩
  by_cases q1 : (80 : Int) < (mn : Int)
  · go_wp2
    go_ret
    exact ⟨rfl, hB⟩
  have HB := Lib.hid hB
  clear hB
  go_wp2_with fail
  refine (resolve_any ma mb moff mn mcap m a b off n cap l _ (HM.out.1.grown HB.out) hmn (blk_has2 HM.out.2.1 HB.out) (HM.out.2.2.grown HB.out) hn hnc).mono ?_; rintro e w2 ⟨hR, hb⟩
  have hB2 := below_after HB.out hb HB.out.size
  clear hb HB
  rcases hR with ⟨hE, rfl⟩ | ⟨hE, hcv, v2, rfl, hO⟩
  · generalize resE m l = E at *
    have zE : (E == 0) = false := by simpa using hE
    go_wp2
    go_ret
    exact ⟨rfl, hB2⟩
  obtain ⟨hmap, hlane, hpos⟩ := resE_zero hE
  obtain ⟨a2, b2, c2, rfl, R2, -, hn2, hl2, -⟩ := hO.s
  have hsl : (stays (mvL m l)).length ≤ n := by
    have := outK_len (mvL m l) (mvL m l).length
    rw [outK_all, mvL_len, hl] at this
    exact this
  have HC := Lib.hid (show _ ∧ _ ∧ _ ∧ _ from ⟨hcv, hmap, hlane, hpos⟩)
  have HX := Lib.hid (show _ ∧ _ from ⟨R2, hB2⟩)
  have ec := chkC_yes hcv
  have HLV := Lib.hid (fun i K (h : lastOf m l i l.length K) => lastOf_val h hcv)
  clear hcv hmap hlane hpos hO R2 hB2 hE
  have ev : ∀ x, valV (stays (mvL m l)) x = valC (stays (mvL m l)) x := fun x => valV_yes HC.out.1 x
  have HEV := Lib.hid (show _ ∧ _ from ⟨ev, ec⟩)
  clear ev
  generalize stays (mvL m l) = s at *
  obtain ⟨S, hS⟩ : ∃ S, S = s.length := ⟨_, rfl⟩
  rw [← hS] at HX hl2 hsl ⊢
  have HSS := Lib.hid hS
  clear hS
  have sS : ¬ ((n : Int) < (S : Int)) := by omega
  have sN : ¬ (n < S) := by omega
  go_wp2_with fail
  refine (ccheck_any a2 b2 0 S c2 s _ HX.out.1 (by omega) hn2 hl2).mono ?_; rintro e w3 ⟨rfl, hb⟩; rw [ec]
  have HY := Lib.hid (show _ ∧ _ from ⟨HX.out.1.grown hb, below_after HX.out.2 hb HX.out.2.size⟩)
  clear hb ec HX
  go_wp2
  go_loopw [49] (fun ii W => ∃ i : Nat, i ≤ n ∧ ii = .int .i64 i ∧ Ks W a2 S b2 0 s ∧ Below w.heap.size w W) (fun ii _ => n - (intOf ii).toNat)
  case atStart => exact ⟨0, Nat.zero_le _, rfl, HY.out.1, HY.out.2⟩
  case round =>
    obtain ⟨i, hi, rfl, hK, hB⟩ := hrel
    clear HY
    by_cases hlt : i < n
    case neg =>
      go_wp2
      go_ret
      exact ⟨rfl, hB⟩
    obtain ⟨rfl, hbw⟩ := HM.out.2.2.2.1 (by omega)
    obtain ⟨c0, c1, -, -, -⟩ := (HM.out.2.2.grown hB).2.2 i hlt
    have ok := (HC.out.2.2.1.2 i (by omega)).1
    have hp := HC.out.2.2.2 i (by omega)
    obtain ⟨T, hT⟩ : ∃ T, T = (nthK l i).1 := ⟨_, rfl⟩
    obtain ⟨V, hV⟩ : ∃ V, V = (nthK l i).2.1 := ⟨_, rfl⟩
    obtain ⟨Z, hZ⟩ : ∃ Z, Z = smp m T := ⟨_, rfl⟩
    rw [← hT] at c0 hp
    rw [← hV] at c1
    obtain ⟨s1, s2⟩ := s_ok HC.out.2.1 (tick := T) ⟨by rw [hT]; exact ok.1, by rw [hT]; exact ok.2.1⟩ hp
    rw [← hZ] at s2
    have HI := Lib.hid (show _ ∧ _ ∧ _ ∧ _ ∧ _ from ⟨hT, hV, hZ, s1, s2⟩)
    have HW := Lib.hid (show _ ∧ _ from ⟨hK, hB⟩)
    have i2 : (i : Int) < (n : Int) := by omega
    have ui : IntKind.i64.wrap ((i : Int) + 1) = (i : Int) + 1 := wrap_id (by omega)
    clear ok hp hT hV hZ s1 s2 hK hB
    go_wp2_with fail
    refine (tsample_any ma mb moff mn mcap m T _ (HM.out.1.grown HW.out.2) hmn (blk_has2 HM.out.2.1 HW.out.2)).mono ?_; rintro e w5 ⟨rfl, hb⟩; rw [HI.out.2.2.2.1, HI.out.2.2.2.2]
    have d1 := (hb.cell (p := ⟨b, _, none⟩) (show b < wr.heap.size by have := HW.out.2.size; omega)).trans c1
    have H5 := Lib.hid (show _ ∧ _ from ⟨HW.out.1.grown hb, below_after HW.out.2 hb HW.out.2.size⟩)
    clear hb c0 c1
    go_wp2
    go_loopw [10, 11] (fun la kk W => ∃ k K : Nat, i + 1 ≤ k ∧ k ≤ n ∧ kk = .int .i64 k ∧ la = .int .i64 (nthK l K).2.1 ∧ lastOf m l i k K ∧ Ks W a2 S b2 0 s ∧ Below w.heap.size w W) (fun _ kk _ => n - (intOf kk).toNat)
    case atStart => exact ⟨i + 1, i, by omega, by omega, by go_num, by rw [← HI.out.2.1], ⟨by omega, by omega, rfl, fun j h1 h2 => by omega⟩, H5.out.1, H5.out.2⟩
    case round =>
      obtain ⟨k, K, hik, hk, rfl, rfl, hla, hK, hB⟩ := hrel
      clear H5
      by_cases hkt : k < n
      · obtain ⟨f0, f1, -, -, -⟩ := (HM.out.2.2.grown hB).2.2 k hkt
        have ok := (HC.out.2.2.1.2 k (by omega)).1
        have hp := HC.out.2.2.2 k (by omega)
        obtain ⟨T2, hT2⟩ : ∃ T, T = (nthK l k).1 := ⟨_, rfl⟩
        obtain ⟨V2, hV2⟩ : ∃ V, V = (nthK l k).2.1 := ⟨_, rfl⟩
        obtain ⟨Z2, hZ2⟩ : ∃ Z, Z = smp m T2 := ⟨_, rfl⟩
        rw [← hT2] at f0 hp
        rw [← hV2] at f1
        obtain ⟨s1, s2⟩ := s_ok HC.out.2.1 (tick := T2) ⟨by rw [hT2]; exact ok.1, by rw [hT2]; exact ok.2.1⟩ hp
        rw [← hZ2] at s2
        have HJ := Lib.hid (show _ ∧ _ ∧ _ ∧ _ ∧ _ ∧ _ from ⟨hT2, hV2, hZ2, s1, s2, hla⟩)
        have HW2 := Lib.hid (show _ ∧ _ from ⟨hK, hB⟩)
        have i3 : (k : Int) < (n : Int) := by omega
        have uk : IntKind.i64.wrap ((k : Int) + 1) = (k : Int) + 1 := wrap_id (by omega)
        clear ok hp hT2 hV2 hZ2 s1 s2 hK hB hla
        generalize hU : (nthK l K).2.1 = U at *
        have HUU := Lib.hid (show Value.int .i64 U = .int .i64 (nthK l K).2.1 by rw [hU])
        clear hU
        by_cases hq : Z2 = Z
        · subst hq
          go_wp2_with fail
          refine (tsample_any ma mb moff mn mcap m T2 _ (HM.out.1.grown HW2.out.2) hmn (blk_has2 HM.out.2.1 HW2.out.2)).mono ?_; rintro e w6 ⟨rfl, hb⟩; rw [HJ.out.2.2.2.1, HJ.out.2.2.2.2.1]
          have g1 := (hb.cell (p := ⟨b, _, none⟩) (show b < wr.heap.size by have := HW2.out.2.size; omega)).trans f1
          have H6 := Lib.hid (show _ ∧ _ from ⟨HW2.out.1.grown hb, below_after HW2.out.2 hb HW2.out.2.size⟩)
          clear hb f0 f1
          go_wp2
          go_roundw
          case rel => exact ⟨k + 1, k, by omega, by omega, by go_num, by rw [← HJ.out.2.1], ⟨by omega, by omega, by rw [← HJ.out.1, ← HI.out.1, ← HI.out.2.2.1, ← HJ.out.2.2.1], fun j h1 h2 => by omega⟩, H6.out.1, H6.out.2⟩
          case measure => simp [intOf] <;> omega
        · have zq : (Z2 == Z) = false := by simpa using hq
          go_wp2_with fail
          refine (tsample_any ma mb moff mn mcap m T2 _ (HM.out.1.grown HW2.out.2) hmn (blk_has2 HM.out.2.1 HW2.out.2)).mono ?_; rintro e w6 ⟨rfl, hb⟩; rw [HJ.out.2.2.2.1, HJ.out.2.2.2.2.1]
          have H6 := Lib.hid (show _ ∧ _ from ⟨HW2.out.1.grown hb, below_after HW2.out.2 hb HW2.out.2.size⟩)
          have HQ := Lib.hid hq
          clear hb f0 f1 hq
          go_wp2
          go_roundw
          case rel => exact ⟨k + 1, K, by omega, by omega, by go_num, HUU.out, ⟨HJ.out.2.2.2.2.2.1, by have := HJ.out.2.2.2.2.2.2.1; omega, HJ.out.2.2.2.2.2.2.2.1, fun j h1 h2 => by
            by_cases e : j = k
            · subst e; rw [← HJ.out.1, ← HI.out.1, ← HI.out.2.2.1, ← HJ.out.2.2.1]; exact HQ.out
            · exact HJ.out.2.2.2.2.2.2.2.2 j h1 (by omega)⟩, H6.out.1, H6.out.2⟩
          case measure => simp [intOf] <;> omega
      obtain rfl : k = n := by omega
      have hval := HLV.out i K (by rw [hl]; exact hla)
      rw [← HI.out.1, ← HI.out.2.2.1] at hval
      have ev := (HEV.out.1 Z).trans hval
      have ec := HEV.out.2
      have HW2 := Lib.hid (show _ ∧ _ from ⟨hK, hB⟩)
      clear hK hB hla hval
      generalize (nthK l K).2.1 = U at *
      go_wp2_with fail
      refine (cvalue_any a2 b2 0 S c2 s Z _ HW2.out.1 (by omega) hn2 hl2).mono ?_; rintro e w6 ⟨rfl, hb⟩; rw [ev, ec]
      have H6 := Lib.hid (show _ ∧ _ from ⟨HW2.out.1.grown hb, below_after HW2.out.2 hb HW2.out.2.size⟩)
      clear hb ev ec
      go_wp2
      go_roundw
      case rel => exact ⟨i + 1, by omega, by go_num, H6.out.1, H6.out.2⟩
      case measure => simp [intOf] <;> omega
end Go.Proofs.Ytafffmcmdhbghaa
