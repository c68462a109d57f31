/- The reference's Resolve (layer 11). -/
import Derived.Test.YtafffmcmdhbghaaCrvRes
import Derived.Test.YtafffmcmdhbghaaCrvRVal
import Derived.Test.YtafffmcmdhbghaaTemAt2
namespace Go.Proofs.Ytafffmcmdhbghaa
open Go.ChangeShapes Go.WideShapes Go.ChangeAt Go.RowKit

theorem rlane_any (a : Option Addr) (b off n cap : Nat) (l : List Kt) (w : World) (h : Ks w a n b off l) (hn : n ≤ 9223372036854775807) :
    Calls Try.prog 34 #[.slice a n cap] w fun e w' => e = .returned (.bool (laneB 16777216 l)) ∧ Below w.heap.size w w' := by
  go_enter Try.func34, Try.ntmps34
  go_wp2_with fail
  refine (rlist_any a b off n cap l 16777216 w h hn).mono ?_; rintro e w1 ⟨rfl, hb⟩
  go_wp2
  go_ret
  exact ⟨rfl, hb⟩
/-- What the first k knots leave. -/
def outK (x : List Kt) (k : Nat) : List Kt := stL x ((List.range k).filter (stB x k))
theorem outK_zero (x : List Kt) : outK x 0 = [] := rfl
theorem outK_succ (x : List Kt) (k : Nat) : ∃ r, outK x (k + 1) = r ++ [nthK x k] := ⟨stL x ((List.range k).filter (stB x (k + 1))), by
  unfold outK stL
  rw [List.range_succ, List.filter_append, List.map_append]
  simp [stB]⟩
theorem filter_eq {p q : Nat → Bool} : ∀ k, (∀ i, i < k → p i = q i) → (List.range k).filter p = (List.range k).filter q := fun _ h =>
  List.filter_congr fun i hi => h i (List.mem_range.1 hi)
/-- The last one goes where the next is at its place. -/
theorem outK_next (x : List Kt) (k : Nat) : outK x (k + 2) = (if (nthK x (k + 1)).1 = (nthK x k).1 then (outK x (k + 1)).dropLast else outK x (k + 1)) ++ [nthK x (k + 1)] := by
  have e0 : (List.range k).filter (stB x (k + 2)) = (List.range k).filter (stB x (k + 1)) := filter_eq k fun i hi => by
    unfold stB
    rw [decide_eq_decide]
    omega
  have e1 : outK x (k + 1) = stL x ((List.range k).filter (stB x (k + 1))) ++ [nthK x k] := by
    unfold outK stL
    rw [List.range_succ, List.filter_append, List.map_append]
    simp [stB]
  have e2 : outK x (k + 2) = stL x ((List.range k).filter (stB x (k + 1))) ++ (if (nthK x (k + 1)).1 = (nthK x k).1 then [] else [nthK x k]) ++ [nthK x (k + 1)] := by
    unfold outK stL
    rw [List.range_succ, List.range_succ, List.filter_append, List.filter_append, e0, List.map_append, List.map_append]
    by_cases h : (nthK x (k + 1)).1 = (nthK x k).1
    · simp [stB, h]
    · simp [stB, h]
  rw [e2, e1]
  by_cases h : (nthK x (k + 1)).1 = (nthK x k).1
  · simp [h]
  · simp [h]
theorem outK_all (x : List Kt) : outK x x.length = stays x := rfl
theorem outK_len (x : List Kt) (k : Nat) : (outK x k).length ≤ k := by
  unfold outK stL
  rw [List.length_map]
  exact Nat.le_trans (List.length_filter_le _ _) (by simp)
theorem KsO.shorter {w : World} {B n c : Nat} {a : Option Addr} {x : List Kt} {y : Kt} (h : KsO w B (.slice a n c) (x ++ [y])) : KsO w B (.slice a x.length c) x := by
  rcases h.2 with ⟨_, h0⟩ | ⟨g, cap, cur, h1, h2, h3, h4, h5, h6, h7⟩
  · simp at h0
  · simp only [Value.slice.injEq] at h1
    obtain ⟨rfl, _, rfl⟩ := h1
    rw [List.length_append, List.length_singleton] at h4 h7
    refine ⟨by rw [encLK_len], .inr ⟨g, c, cur, rfl, h2, h3, by omega, h5, h6, ?_⟩⟩
    have h8 := congrArg (List.take (x.length * 5)) h7
    have e5 : min (x.length * 5) ((x.length + 1) * 5) = x.length * 5 := by omega
    rw [List.take_take, e5, encLK_app, List.take_append_of_le_length (Nat.le_of_eq (encLK_len x).symm), List.take_of_length_le (Nat.le_of_eq (encLK_len x))] at h8
    exact h8

set_option maxRecDepth 100000 in
set_option maxHeartbeats 8000000 in
theorem rresolve_any (ma : Option Addr) (mb moff mn mcap : Nat) (m : List Tp) (a : Option Addr) (b off n cap : Nat) (l : List Kt) (w : World) (hT : Ts w ma mn mb moff m) (hmn : mn ≤ 9223372036854775807) (hK : Ks w a n b off l) (hn : n ≤ 9223372036854775807) :
    Calls Try.prog 21 #[.slice ma mn mcap, .slice a n cap] w fun e w' => ResR m l w e w' ∧ Below w.heap.size w w' := by
  have HH := Lib.hid (show _ ∧ _ from ⟨hT, hK⟩)
  have hl := hK.1
  clear hT hK
  unfold ResR
  by_cases hm : Map m
  case neg =>
    have e := resE_map (l := l) hm
    rw [e]
    have hc := chk_no hm
    clear hm e
    go_enter Try.func21, Try.ntmps21
    go_wp2_with fail
    refine (rcheck_any ma mn mcap mb moff m _ HH.out.1 hmn).mono ?_; rintro e w1 ⟨rfl, hb⟩; rw [hc]
    clear hc
    go_wp2
    exact bodyPost_ret (v := .tuple #[.slice none 0 0, .int .i64 90]) (by simp [results, Try.results21, go_sem]) rfl ⟨.inl ⟨by decide, rfl⟩, hb⟩
  have hc := chk_yes hm
  by_cases hv : Lane 16777216 l
  case neg =>
    have e := resE_lane hm hv
    rw [e]
    have ev := laneB_f hv
    clear hm e hv
    go_enter Try.func21, Try.ntmps21
    go_wp2_with fail
    refine (rcheck_any ma mn mcap mb moff m _ HH.out.1 hmn).mono ?_; rintro e w1 ⟨rfl, hb⟩; rw [hc]
    go_wp2_with fail
    refine (rlane_any a b off n cap l _ (HH.out.2.grown hb) hn).mono ?_; rintro e w2 ⟨rfl, hb2⟩; rw [ev]
    replace hb := below_after hb hb2 hb.size
    clear hc ev hb2
    go_wp2
    exact bodyPost_ret (v := .tuple #[.slice none 0 0, .int .i64 110]) (by simp [results, Try.results21, go_sem]) rfl ⟨.inl ⟨by decide, rfl⟩, hb⟩
  have ev := laneB_t hv
  have hn2 : n ≤ 1024 := by rw [← hl]; exact hv.1
  have HV := Lib.hid (show _ ∧ _ from ⟨hm, hv⟩)
  clear hm hv
  go_enter Try.func21, Try.ntmps21
  go_wp2_with fail
  refine (rcheck_any ma mn mcap mb moff m _ HH.out.1 hmn).mono ?_; rintro e w1 ⟨rfl, hb⟩; rw [hc]
  go_wp2_with fail
  refine (rlane_any a b off n cap l _ (HH.out.2.grown hb) hn).mono ?_; rintro e w2 ⟨rfl, hb2⟩; rw [ev]
  replace hb := below_after hb hb2 hb.size
  clear hc ev hb2
  have HB0 := Lib.hid hb
  have hs0 := hb.size
  clear hb
  go_wp2
  go_loopw [7, 8] (fun v i wr => ∃ k : Nat, k ≤ n ∧ i = .int .i64 k ∧ inPos m l k ∧ KsO wr w.heap.size v (outK (mvL m l) k) ∧ Below w.heap.size w wr) (fun _ i _ => n - (intOf i).toNat)
  case atStart => exact ⟨0, Nat.zero_le _, rfl, fun i hi => by omega, (KsO.empty w2).mono hs0, HB0.out.alloc hs0 _⟩
  case round =>
    obtain ⟨k, hk, rfl, hpk, hO, hB⟩ := hrel
    clear HB0
    have hx : (mvL m l).length = n := by rw [mvL_len, hl]
    have hsz := hB.size
    by_cases hlt : k < n
    case neg =>
      obtain rfl : k = n := by omega
      have er := resE_ok HV.out.1 HV.out.2 (by rw [hl]; exact hpk)
      rw [← hx, outK_all] at hO
      have hstl : (stays (mvL m l)).length ≤ 1024 := by have := outK_len (mvL m l) (mvL m l).length; rw [outK_all] at this; omega
      obtain ⟨ga, gb, gc, rfl, hsl, -, -, -⟩ := hO.s
      have HX := Lib.hid (show _ ∧ _ from ⟨hO, hB⟩)
      clear hO hB hpk
      by_cases hcv : Curve (stays (mvL m l))
      · have ec := chkC_yes hcv
        rw [ec] at er
        go_wp2_with fail
        refine (rccheck_any ga gb 0 _ gc _ wr hsl (by omega)).mono ?_; rintro e w4 ⟨rfl, hb4⟩; rw [ec]
        clear ec hsl
        go_wp2
        exact bodyPost_ret (v := .tuple #[.slice ga (stays (mvL m l)).length gc, .int .i64 0]) (by simp [results, Try.results21, go_sem]) rfl ⟨.inr ⟨er, hcv, _, rfl, HX.out.1.below hb4 (Nat.le_refl _)⟩, below_after HX.out.2 hb4 HX.out.2.size⟩
      · have ec := chkC_no hcv
        rw [ec] at er
        go_wp2_with fail
        refine (rccheck_any ga gb 0 _ gc _ wr hsl (by omega)).mono ?_; rintro e w4 ⟨rfl, hb4⟩; rw [ec]
        clear ec hsl
        go_wp2
        exact bodyPost_ret (v := .tuple #[.slice none 0 0, .int .i64 110]) (by simp [results, Try.results21, go_sem]) rfl ⟨.inl ⟨by rw [er]; decide, by rw [er]⟩, below_after HX.out.2 hb4 HX.out.2.size⟩
    obtain ⟨rfl, hbw⟩ := HH.out.2.2.1 (by omega)
    obtain ⟨c0, c1, c2, c3, c4⟩ := (HH.out.2.grown hB).2.2 k hlt
    have okk := (HV.out.2.2 k (by omega)).1
    have t0 := okk.1; have t1 := okk.2.1
    have i2 : (k : Int) < (n : Int) := by omega
    have uk : IntKind.i64.wrap ((k : Int) + 1) = (k : Int) + 1 := wrap_id (by omega)
    have eM : nthK (mvL m l) k = (smp m (nthK l k).1, (nthK l k).2) := mvL_nth (by omega)
    clear okk
    generalize hkt : nthK l k = kt at *
    obtain ⟨T, V, S, A, B⟩ := kt
    dsimp only at *
    have HK := Lib.hid (show _ ∧ _ from ⟨hkt, eM⟩)
    clear hkt eM
    by_cases hs : smp m T ≤ 1099511627776
    case neg =>
      obtain ⟨s1, s2⟩ := s_big HV.out.1 (tick := T) ⟨t0, t1⟩ (by omega)
      have er := resE_pos HV.out.1 HV.out.2 (fun h => hs (by have h2 := h k (by omega); rw [HK.out.1] at h2; exact h2))
      have HE := Lib.hid er
      have HS := Lib.hid (show _ ∧ _ from ⟨s1, s2⟩)
      have HBr := Lib.hid hB
      clear s1 s2 hs er hB
      go_wp2_with fail
      refine (rsample_any ma mb moff mn mcap m T _ (HH.out.1.grown HBr.out) hmn).mono ?_; rintro e w5 ⟨rfl, hb5⟩; rw [HS.out.1, HS.out.2]
      go_wp2
      exact bodyPost_ret (v := .tuple #[.slice none 0 0, .int .i64 70]) (by simp [results, Try.results21, go_sem]) rfl ⟨.inl ⟨by rw [HE.out]; decide, by rw [HE.out]⟩, below_after HBr.out hb5 HBr.out.size⟩
    obtain ⟨s1, s2⟩ := s_ok HV.out.1 (tick := T) ⟨t0, t1⟩ hs
    generalize hZ : smp m T = Z at *
    have HS := Lib.hid (show _ ∧ _ ∧ _ ∧ _ from ⟨s1, s2, hs, hZ⟩)
    have HBr := Lib.hid hB
    have hpos' : inPos m l (k + 1) := fun i hi => by
      by_cases e : i = k
      · subst e; rw [HK.out.1]; show smp m T ≤ _; rw [hZ]; exact hs
      · exact hpk i (by omega)
    have HP := Lib.hid hpos'
    clear s1 s2 hs hB hpos' hpk hZ
    rcases Nat.eq_zero_or_pos k with hk0 | hk0
    · rw [show outK (mvL m l) k = [] by rw [hk0]; rfl] at hO
      have e1 : outK (mvL m l) (k + 1) = [(Z, V, S, A, B)] := by
        obtain ⟨r, hr⟩ := outK_succ (mvL m l) k
        have := outK_len (mvL m l) (k + 1)
        rw [hr, List.length_append, List.length_singleton] at this
        have : r = [] := List.eq_nil_of_length_eq_zero (by omega)
        rw [hr, this, HK.out.2]; rfl
      have HE := Lib.hid (show _ ∧ _ from ⟨e1, hk0⟩)
      clear e1 hk0
      obtain ⟨ga, gb, gc, rfl, hsl, -, -, -⟩ := hO.s
      have HO := Lib.hid hO
      clear hO hsl
      go_wp2_with fail
      refine (rsample_any ma mb moff mn mcap m T _ (HH.out.1.grown HBr.out) hmn).mono ?_; rintro e w5 ⟨rfl, hb5⟩; rw [HS.out.1, HS.out.2.1]
      have HO5 := Lib.hid (show _ ∧ _ from ⟨HO.out.below hb5 (Nat.le_refl _), below_after HBr.out hb5 HBr.out.size⟩)
      obtain ⟨d0, d1, d2, d3, d4⟩ := (HH.out.2.grown HO5.out.2).2.2 k hlt
      rw [HK.out.1] at d0 d1 d2 d3 d4
      dsimp only at d0 d1 d2 d3 d4
      clear c0 c1 c2 c3 c4 hb5
      have hs5 := HO5.out.2.size
      have hBX : Below w5.heap.size w5 ((w5.alloc (.cells #[.int .i64 Z, .int .i64 V, .int .i64 S, .int .i64 A, .int .i64 B] 43)).alloc (.cells #[.int .i64 Z, .int .i64 V, .int .i64 S, .int .i64 A, .int .i64 B] 43)) := ((Below.refl _ _).alloc (Nat.le_refl _) _).alloc (by simp) _
      have hNX := blk_new (w5.alloc (.cells #[.int .i64 Z, .int .i64 V, .int .i64 S, .int .i64 A, .int .i64 B] 43)) (.cells #[.int .i64 Z, .int .i64 V, .int .i64 S, .int .i64 A, .int .i64 B] 43)
      rw [World.size_alloc] at hNX
      have HX := Lib.hid (show _ ∧ _ from ⟨hBX, hNX⟩)
      clear hBX hNX
      go_wp2_with (at_builtin; refine wpList_append_K rfl _ _ rfl w.heap.size _ [] rfl (HO5.out.1.below HX.out.1 (Nat.le_refl _)) (w5.heap.size + 1) (Z, V, S, A, B) rfl 43 (0, 0) HX.out.2 (by simp) (by simp; omega) ?_; intro v6 w6 hO6 hB6 hG6; clear hG6; rw [List.nil_append, ← HE.out.1] at hO6; have HO6 := Lib.hid (show _ ∧ _ from ⟨hO6, below_after HO5.out.2 HX.out.1 hs5 |>.trans hB6⟩); clear hO6 hB6)
      go_roundw
      case rel => exact ⟨k + 1, by omega, by go_num, HP.out, HO6.out.1, HO6.out.2⟩
      case measure => simp [intOf] <;> omega
    obtain ⟨j, hj⟩ : ∃ j, k = j + 1 := ⟨k - 1, by omega⟩
    obtain ⟨r, hr⟩ := outK_succ (mvL m l) j
    have hnx := outK_next (mvL m l) j
    rw [hr, List.dropLast_concat] at hnx
    rw [show j + 2 = k + 1 by omega, show j + 1 = k by omega, HK.out.2] at hnx
    rw [show outK (mvL m l) k = outK (mvL m l) (j + 1) by rw [hj], hr] at hO
    have hRk := outK_len (mvL m l) (j + 1)
    rw [hr] at hRk
    generalize hy : nthK (mvL m l) j = y at *
    obtain ⟨N, hN⟩ : ∃ N, (r ++ [y]).length = N := ⟨_, rfl⟩
    obtain ⟨R, hR⟩ : ∃ R, r.length = R := ⟨_, rfl⟩
    have hNR : N = R + 1 := by rw [← hN, ← hR]; simp
    rw [hN] at hRk
    obtain ⟨ga, gb, gc, rfl, hsl, -, -, hlc⟩ := hO.s
    rw [hN] at hO hsl hlc ⊢
    obtain ⟨g, c', hgv, hgB⟩ := hO.inBlock hN (by omega)
    simp only [Value.slice.injEq, true_and] at hgv
    obtain ⟨rfl, rfl⟩ := hgv
    obtain ⟨hg1, hg2⟩ := hsl.2.1 (by omega)
    simp only [Option.some.injEq, Addr.mk.injEq, and_true] at hg1
    obtain ⟨rfl, _⟩ := hg1
    have hNk : N ≤ 1024 := by omega
    subst hNR
    have HE0 := Lib.hid (show _ ∧ _ from ⟨hnx, hj⟩)
    have HO := Lib.hid hO
    have HNN := Lib.hid hN
    clear hO hsl hnx hj hr hy hN
    have cy : ∀ W, KsO W w.heap.size (.slice (some ⟨gb, 0, none⟩) (R + 1) gc) (r ++ [y]) → W.cell? ⟨gb, R * 5, none⟩ = some (.int .i64 y.1) := fun W h => by
      rw [h.cellAt HNN.out (R * 5) (by omega), (encLK_get (r ++ [y]) R (by rw [HNN.out]; omega)).1]
      simp [nthK, List.getD_eq_getElem?_getD, ← hR]
    have HCY := Lib.hid cy
    clear cy
    by_cases hq : Z = y.1
    · have HE := Lib.hid (HE0.out.1.trans (by rw [if_pos hq]))
      have eqY : (y.1 == Z) = true := by simp; exact hq.symm
      generalize y.1 = Y at *
      subst hq
      have zN : IntKind.i64.wrap (R : Int) = (R : Int) := by rw [IntKind.wrap_i64]; omega
      have zP : (0 : Int) < (R : Int) + 1 := by omega
      have zC : (R : Int) ≤ (gc : Int) := by omega
      go_wp2_with fail
      refine (rsample_any ma mb moff mn mcap m T _ (HH.out.1.grown HBr.out) hmn).mono ?_; rintro e w5 ⟨rfl, hb5⟩; rw [HS.out.1, HS.out.2.1]
      have HO5 := Lib.hid (show _ ∧ _ from ⟨HO.out.below hb5 (Nat.le_refl _), below_after HBr.out hb5 HBr.out.size⟩)
      obtain ⟨d0, d1, d2, d3, d4⟩ := (HH.out.2.grown HO5.out.2).2.2 k hlt
      rw [HK.out.1] at d0 d1 d2 d3 d4
      dsimp only at d0 d1 d2 d3 d4
      have y0 := HCY.out _ HO5.out.1
      have hg5 : gb < w5.heap.size := by have := hb5.size; omega
      clear c0 c1 c2 c3 c4 hb5
      have hs5 := HO5.out.2.size
      have hBX : Below w5.heap.size w5 ((w5.alloc (.cells #[.int .i64 Z, .int .i64 V, .int .i64 S, .int .i64 A, .int .i64 B] 43)).alloc (.cells #[.int .i64 Z, .int .i64 V, .int .i64 S, .int .i64 A, .int .i64 B] 43)) := ((Below.refl _ _).alloc (Nat.le_refl _) _).alloc (by simp) _
      have hNX := blk_new (w5.alloc (.cells #[.int .i64 Z, .int .i64 V, .int .i64 S, .int .i64 A, .int .i64 B] 43)) (.cells #[.int .i64 Z, .int .i64 V, .int .i64 S, .int .i64 A, .int .i64 B] 43)
      rw [World.size_alloc] at hNX
      have HX := Lib.hid (show _ ∧ _ from ⟨hBX, hNX⟩)
      clear hBX hNX
      go_wp2_with (at_builtin; refine wpList_append_K rfl _ _ rfl w.heap.size _ r rfl ((hR ▸ HO5.out.1.shorter : KsO w5 w.heap.size (.slice (some ⟨gb, 0, none⟩) R gc) r).below HX.out.1 (Nat.le_refl _)) (w5.heap.size + 1) (Z, V, S, A, B) rfl 43 (0, 0) HX.out.2 (by omega) (by simp; omega) ?_; intro v6 w6 hO6 hB6 hG6; clear hG6; rw [← HE.out] at hO6; have HO6 := Lib.hid (show _ ∧ _ from ⟨hO6, below_after HO5.out.2 HX.out.1 hs5 |>.trans hB6⟩); clear hO6 hB6)
      go_roundw
      case rel => exact ⟨k + 1, by omega, by go_num, HP.out, HO6.out.1, HO6.out.2⟩
      case measure => simp [intOf] <;> omega
    · have HE := Lib.hid (HE0.out.1.trans (by rw [if_neg hq]))
      have eqY : (y.1 == Z) = false := by simp; exact fun h => hq h.symm
      have zN : IntKind.i64.wrap (R : Int) = (R : Int) := by rw [IntKind.wrap_i64]; omega
      have zP : (0 : Int) < (R : Int) + 1 := by omega
      have zC : (R : Int) ≤ (gc : Int) := by omega
      go_wp2_with fail
      refine (rsample_any ma mb moff mn mcap m T _ (HH.out.1.grown HBr.out) hmn).mono ?_; rintro e w5 ⟨rfl, hb5⟩; rw [HS.out.1, HS.out.2.1]
      have HO5 := Lib.hid (show _ ∧ _ from ⟨HO.out.below hb5 (Nat.le_refl _), below_after HBr.out hb5 HBr.out.size⟩)
      obtain ⟨d0, d1, d2, d3, d4⟩ := (HH.out.2.grown HO5.out.2).2.2 k hlt
      rw [HK.out.1] at d0 d1 d2 d3 d4
      dsimp only at d0 d1 d2 d3 d4
      have y0 := HCY.out _ HO5.out.1
      have hg5 : gb < w5.heap.size := by have := hb5.size; omega
      clear c0 c1 c2 c3 c4 hb5
      have hs5 := HO5.out.2.size
      have hBX : Below w5.heap.size w5 ((w5.alloc (.cells #[.int .i64 Z, .int .i64 V, .int .i64 S, .int .i64 A, .int .i64 B] 43)).alloc (.cells #[.int .i64 Z, .int .i64 V, .int .i64 S, .int .i64 A, .int .i64 B] 43)) := ((Below.refl _ _).alloc (Nat.le_refl _) _).alloc (by simp) _
      have hNX := blk_new (w5.alloc (.cells #[.int .i64 Z, .int .i64 V, .int .i64 S, .int .i64 A, .int .i64 B] 43)) (.cells #[.int .i64 Z, .int .i64 V, .int .i64 S, .int .i64 A, .int .i64 B] 43)
      rw [World.size_alloc] at hNX
      have HX := Lib.hid (show _ ∧ _ from ⟨hBX, hNX⟩)
      clear hBX hNX
      go_wp2_with (at_builtin; refine wpList_append_K rfl _ _ rfl w.heap.size _ (r ++ [y]) rfl (HO5.out.1.below HX.out.1 (Nat.le_refl _)) (w5.heap.size + 1) (Z, V, S, A, B) rfl 43 (0, 0) HX.out.2 (by rw [HNN.out]; omega) (by simp; omega) ?_; intro v6 w6 hO6 hB6 hG6; clear hG6; rw [← HE.out] at hO6; have HO6 := Lib.hid (show _ ∧ _ from ⟨hO6, below_after HO5.out.2 HX.out.1 hs5 |>.trans hB6⟩); clear hO6 hB6)
      go_roundw
      case rel => exact ⟨k + 1, by omega, by go_num, HP.out, HO6.out.1, HO6.out.2⟩
      case measure => simp [intOf] <;> omega
end Go.Proofs.Ytafffmcmdhbghaa
